/- How many are in, by the document. -/
import Derived.Test.YthgacmlbmcehmaaDRn
namespace Go.Proofs.Ythgacmlbmcehmaa
set_option linter.unusedVariables false
set_option linter.unusedSimpArgs false
open Go.ChangeShapes Go.WideShapes Go.ChangeAt Go.RowKit Go.Joins Go.Deep

/-- of the first k those that are in at a label -/
def rsN (R : List Rg) (E : Nat → Int) (l : Int) : Nat → Nat
  | 0 => 0
  | k + 1 => rsN R E l k + (if ((R[k]?.map Rg.opn).getD false && E k == l) = true then 1 else 0)
theorem rsN_le (R : List Rg) (E : Nat → Int) (l : Int) (k : Nat) : rsN R E l k ≤ k := by
  induction k with
  | zero => exact Nat.le_refl _
  | succ k ih => simp only [rsN]; split <;> omega
theorem rsN_in {R : List Rg} {E : Nat → Int} {l : Int} {k : Nat} {x : Rg} (hx : R[k]? = some x) (ho : x.opn = true) (hE : E k = l) : rsN R E l (k + 1) = rsN R E l k + 1 := by
  simp [rsN, hx, ho, hE]
theorem rsN_out {R : List Rg} {E : Nat → Int} {l : Int} {k : Nat} {x : Rg} (hx : R[k]? = some x) (ho : x.opn = false ∨ E k ≠ l) : rsN R E l (k + 1) = rsN R E l k := by
  rcases ho with ho | ho <;> simp [rsN, hx, ho]
set_option maxRecDepth 100000 in
set_option maxHeartbeats 4000000 in
theorem rseats_ok {w : World} {g gg c n2 c2 : Nat} {s0 s1 : Value} {a2 : Option Addr} {ex : List Value} {R : List Rg} {E : Nat → Int} {S : Nat → ByteArray} {Dw : Nat → Bool} (h : Rk w g gg c s0 s1 (.slice a2 n2 c2) ex R) (pe : PolEnts w a2 n2 E S Dw) (hn2 : R.length = n2) (l : Int) : Calls Try.prog 28 #[.pointer (some ⟨g, 0, none⟩), .int .i64 l] w fun r w' => r = .returned (.int .i64 (rsN R E l n2 : Int)) ∧ Below w.heap.size w w' := by
  have c3 : w.cell? ⟨g, 3, none⟩ = some (.slice (some ⟨gg, 0, none⟩) R.length c) := h.obj.cell 3
  have HH := hide h
  have HPE := hide pe
  have hl := h.le
  rw [hn2] at c3 hl
  have HN := hide hn2
  have n8 : (n2 : Int) ≤ 8 := by omega
  obtain ⟨res, hres⟩ : ∃ r : Nat, rsN R E l n2 = r := ⟨_, rfl⟩
  rw [hres]
  have HRES := hide hres
  clear h pe hn2 hres
  go_enter Try.func28, Try.ntmps28
  go_wp2_with fail
  go_loopw [5, 13] (fun nn s wr => ∃ k : Nat, k ≤ n2 ∧ s = .int .i64 (k : Int) ∧ (∃ u : Nat, nn = .int .i64 (u : Int) ∧ u ≤ k ∧ Hid (u = rsN R E l k)) ∧ Hid (Below w.heap.size w wr)) (fun _ s _ => ((n2 : Int) - intOf s).toNat)
  case atStart => exact ⟨0, by omega, by simp, ⟨0, by simp, by omega, hide rfl⟩, hide (Below.refl _ _)⟩
  case round =>
    obtain ⟨k, hk, rfl, ⟨u, rfl, huk, HU⟩, HB⟩ := hrel
    by_cases hlt : k < n2
    · have kI : (k : Int) < (n2 : Int) := by omega
      obtain ⟨x, hx⟩ : ∃ x, R[k]? = some x := ⟨_, List.getElem?_eq_getElem (by have := unhide HN; omega)⟩
      have hd := (unhide HH).call (unhide HB)
      have e0 : wr.cell? ⟨gg, k * 5, none⟩ = some (.int .i64 x.conn) := hd.cell (f := 0) hx (by decide)
      have e1 : wr.cell? ⟨gg, k * 5 + 1, none⟩ = some (.bool x.opn) := hd.cell hx (by decide)
      have e2 : wr.cell? ⟨gg, k * 5 + 2, none⟩ = some (.int .i64 x.silent) := hd.cell hx (by decide)
      have e3 : wr.cell? ⟨gg, k * 5 + 3, none⟩ = some (.int .i64 x.wrong) := hd.cell hx (by decide)
      have e4 : wr.cell? ⟨gg, k * 5 + 4, none⟩ = some (.int .i64 x.locked) := hd.cell hx (by decide)
      have HB2 := hide ((unhide HB).alloc (unhide HB).size (.cells #[.int .i64 x.conn, .bool x.opn, .int .i64 x.silent, .int .i64 x.wrong, .int .i64 x.locked] 53))
      have c2A : (wr.alloc (.cells #[.int .i64 x.conn, .bool x.opn, .int .i64 x.silent, .int .i64 x.wrong, .int .i64 x.locked] 53)).cell? ⟨g, 2, none⟩ = some (.slice a2 n2 c2) := ((unhide HH).call (unhide HB2)).obj.cell 2
      obtain ⟨be, oe, ha2, hbe, hrow⟩ : ∃ b off, a2 = some ⟨b, off, none⟩ ∧ b < wr.heap.size ∧ EntRow (wr.alloc (.cells #[.int .i64 x.conn, .bool x.opn, .int .i64 x.silent, .int .i64 x.wrong, .int .i64 x.locked] 53)) b off n2 E S Dw := by
        have h1 := (unhide HPE).call (unhide HB)
        have h2 := (unhide HPE).call (unhide HB2)
        rcases h1.2.2 with h | ⟨b, off, rfl, hb, _⟩
        · omega
        rcases h2.2.2 with h | ⟨b', off', e, _, hr⟩
        · omega
        obtain ⟨rfl, rfl⟩ : b = b' ∧ off = off' := by simpa using e
        exact ⟨b, off, rfl, hb, hr⟩
      have f0 := (hrow k hlt).1
      rw [ha2] at c2A
      clear hrow hd ha2
      have HX := hide hx
      clear hx
      cases ho : x.opn with
      | false =>
        rw [ho] at e1 HB2 f0 c2A
        have HU2 : Hid (u = rsN R E l (k + 1)) := hide (by rw [rsN_out (unhide HX) (.inl ho)]; exact unhide HU)
        clear ho HX HU
        have huk2 : u ≤ k + 1 := by omega
        go_wp2_with fail
        exact ⟨⟨k + 1, by omega, by simp, ⟨u, by simp, huk2, HU2⟩, HB2⟩, by simp [intOf]; omega⟩
      | true =>
        rw [ho] at e1 HB2 f0 c2A
        by_cases hE : E k = l
        · rw [hE] at f0
          have HU2 : Hid (u + 1 = rsN R E l (k + 1)) := hide (by rw [rsN_in (unhide HX) ho hE, ← unhide HU])
          clear ho HX HU hE
          have huk2 : u + 1 ≤ k + 1 := by omega
          go_wp2_with fail
          exact ⟨⟨k + 1, by omega, by simp, ⟨u + 1, by simp, huk2, HU2⟩, HB2⟩, by simp [intOf]; omega⟩
        · have hEb : (E k == l) = false := by simp [hE]
          have HU2 : Hid (u = rsN R E l (k + 1)) := hide (by rw [rsN_out (unhide HX) (.inr hE)]; exact unhide HU)
          clear ho HX HU
          have huk2 : u ≤ k + 1 := by omega
          go_wp2_with fail
          exact ⟨⟨k + 1, by omega, by simp, ⟨u, by simp, huk2, HU2⟩, HB2⟩, by simp [intOf]; omega⟩
    · obtain rfl : n2 = k := by omega
      have kI : ¬ (n2 : Int) < (n2 : Int) := by omega
      have HE : Hid (u = res) := hide (by rw [← unhide HRES]; exact unhide HU)
      clear HU
      go_wp2_with fail
      go_ret
      exact ⟨by rw [unhide HE]; rfl, unhide HB⟩
end Go.Proofs.Ythgacmlbmcehmaa
