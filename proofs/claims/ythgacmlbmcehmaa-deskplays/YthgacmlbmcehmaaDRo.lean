/- Open, by the document. -/
import Derived.Test.YthgacmlbmcehmaaDRs
namespace Go.Proofs.Ythgacmlbmcehmaa
set_option linter.unusedVariables false
set_option linter.unusedSimpArgs false
open Go.ChangeShapes Go.WideShapes Go.ChangeAt Go.RowKit Go.Joins Go.Deep

set_option maxRecDepth 100000 in
set_option maxHeartbeats 4000000 in
theorem ropen_shut {w : World} {g gg c n1 n2 c1 c2 : Nat} {s0 : Value} {a1 a2 : Option Addr} {ex : List Value} {R : List Rg} {E Q1 Q2 Q3 : Nat → Int} {S : Nat → ByteArray} {Dw : Nat → Bool} (h : Rk w g gg c s0 (.slice a1 n1 c1) (.slice a2 n2 c2) ex R) (i : Nat) (x : Rg) (hx : R[i]? = some x) (hc : x.conn = 0) : Calls Try.prog 18 #[.pointer (some ⟨g, 0, none⟩), .int .i64 (i : Int)] w fun r w' => r = .returned (.int .i64 172) ∧ Below w.heap.size w w' := by
  have c3 : w.cell? ⟨g, 3, none⟩ = some (.slice (some ⟨gg, 0, none⟩) R.length c) := h.obj.cell 3
  have hl := h.le
  have HH := hide h
  have HNO := hide (rno_in h i (List.getElem?_eq_some_iff.1 hx).1)
  have e0 : w.cell? ⟨gg, i * 5, none⟩ = some (.int .i64 x.conn) := h.cell (f := 0) hx (by decide)
  have e1 : w.cell? ⟨gg, i * 5 + 1, none⟩ = some (.bool x.opn) := h.cell hx (by decide)
  have e2 : w.cell? ⟨gg, i * 5 + 2, none⟩ = some (.int .i64 x.silent) := h.cell hx (by decide)
  have e3 : w.cell? ⟨gg, i * 5 + 3, none⟩ = some (.int .i64 x.wrong) := h.cell hx (by decide)
  have e4 : w.cell? ⟨gg, i * 5 + 4, none⟩ = some (.int .i64 x.locked) := h.cell hx (by decide)
  have hi := (List.getElem?_eq_some_iff.1 hx).1
  obtain ⟨n, hn⟩ : ∃ n, R.length = n := ⟨_, rfl⟩
  have HN := hide hn
  rw [hn] at c3 hi hl
  have i2 : (i : Int) < (n : Int) := by omega
  have n8 : (n : Int) ≤ 8 := by omega
  have HX := hide hx
  clear h hn hx
  rw [hc] at e0
  go_enter Try.func18, Try.ntmps18
  go_wp2_with fail
  refine Calls.mono (unhide HNO) ?_
  rintro r w1 ⟨rfl, rfl⟩
  go_wp2_with fail
  go_ret
  exact ⟨rfl, by go_grown⟩
set_option maxRecDepth 100000 in
set_option maxHeartbeats 4000000 in
theorem ropen_is {w : World} {g gg c n1 n2 c1 c2 : Nat} {s0 : Value} {a1 a2 : Option Addr} {ex : List Value} {R : List Rg} {E Q1 Q2 Q3 : Nat → Int} {S : Nat → ByteArray} {Dw : Nat → Bool} (h : Rk w g gg c s0 (.slice a1 n1 c1) (.slice a2 n2 c2) ex R) (i : Nat) (x : Rg) (hx : R[i]? = some x) (hc : x.conn ≠ 0) (ho : x.opn = true) : Calls Try.prog 18 #[.pointer (some ⟨g, 0, none⟩), .int .i64 (i : Int)] w fun r w' => r = .returned (.int .i64 0) ∧ Below w.heap.size w w' := by
  have c3 : w.cell? ⟨g, 3, none⟩ = some (.slice (some ⟨gg, 0, none⟩) R.length c) := h.obj.cell 3
  have hl := h.le
  have HH := hide h
  have HNO := hide (rno_in h i (List.getElem?_eq_some_iff.1 hx).1)
  have e0 : w.cell? ⟨gg, i * 5, none⟩ = some (.int .i64 x.conn) := h.cell (f := 0) hx (by decide)
  have e1 : w.cell? ⟨gg, i * 5 + 1, none⟩ = some (.bool x.opn) := h.cell hx (by decide)
  have e2 : w.cell? ⟨gg, i * 5 + 2, none⟩ = some (.int .i64 x.silent) := h.cell hx (by decide)
  have e3 : w.cell? ⟨gg, i * 5 + 3, none⟩ = some (.int .i64 x.wrong) := h.cell hx (by decide)
  have e4 : w.cell? ⟨gg, i * 5 + 4, none⟩ = some (.int .i64 x.locked) := h.cell hx (by decide)
  have hi := (List.getElem?_eq_some_iff.1 hx).1
  obtain ⟨n, hn⟩ : ∃ n, R.length = n := ⟨_, rfl⟩
  have HN := hide hn
  rw [hn] at c3 hi hl
  have i2 : (i : Int) < (n : Int) := by omega
  have n8 : (n : Int) ≤ 8 := by omega
  have HX := hide hx
  clear h hn hx
  rw [ho] at e1
  have hcb : (x.conn == 0) = false := by simp [hc]
  go_enter Try.func18, Try.ntmps18
  go_wp2_with fail
  refine Calls.mono (unhide HNO) ?_
  rintro r w1 ⟨rfl, rfl⟩
  go_wp2_with fail
  go_ret
  exact ⟨rfl, by go_grown⟩
set_option maxRecDepth 100000 in
set_option maxHeartbeats 4000000 in
theorem ropen_full {w : World} {g gg c n1 n2 c1 c2 : Nat} {s0 : Value} {a1 a2 : Option Addr} {ex : List Value} {R : List Rg} {E Q1 Q2 Q3 : Nat → Int} {S : Nat → ByteArray} {Dw : Nat → Bool} (h : Rk w g gg c s0 (.slice a1 n1 c1) (.slice a2 n2 c2) ex R) (pe : PolEnts w a2 n2 E S Dw) (pq : PolQuos w a1 n1 Q1 Q2 Q3) (hn2 : R.length = n2) (i lb : Nat) (x : Rg) (hx : R[i]? = some x) (hc : x.conn ≠ 0) (ho : x.opn = false) (hE : E i = (lb : Int)) (hlb : lb < n1) (hn1 : n1 ≤ 32) (hs : Q3 lb ≤ (rsN R E (lb : Int) n2 : Int)) : Calls Try.prog 18 #[.pointer (some ⟨g, 0, none⟩), .int .i64 (i : Int)] w fun r w' => r = .returned (.int .i64 171) ∧ Below w.heap.size w w' := by
  have HH0 := hide h
  have HPE := hide pe
  have HPQ := hide pq
  have HN2 := hide hn2
  clear pe pq
  have c3 : w.cell? ⟨g, 3, none⟩ = some (.slice (some ⟨gg, 0, none⟩) R.length c) := h.obj.cell 3
  have hl := h.le
  have HH := hide h
  have HNO := hide (rno_in h i (List.getElem?_eq_some_iff.1 hx).1)
  have e0 : w.cell? ⟨gg, i * 5, none⟩ = some (.int .i64 x.conn) := h.cell (f := 0) hx (by decide)
  have e1 : w.cell? ⟨gg, i * 5 + 1, none⟩ = some (.bool x.opn) := h.cell hx (by decide)
  have e2 : w.cell? ⟨gg, i * 5 + 2, none⟩ = some (.int .i64 x.silent) := h.cell hx (by decide)
  have e3 : w.cell? ⟨gg, i * 5 + 3, none⟩ = some (.int .i64 x.wrong) := h.cell hx (by decide)
  have e4 : w.cell? ⟨gg, i * 5 + 4, none⟩ = some (.int .i64 x.locked) := h.cell hx (by decide)
  have hi := (List.getElem?_eq_some_iff.1 hx).1
  obtain ⟨n, hn⟩ : ∃ n, R.length = n := ⟨_, rfl⟩
  have HN := hide hn
  rw [hn] at c3 hi hl
  have i2 : (i : Int) < (n : Int) := by omega
  have n8 : (n : Int) ≤ 8 := by omega
  have HX := hide hx
  clear h hn hx
  have hin2 : i < n2 := by have h1 := unhide HN2; have h2 := unhide HN; omega
  clear hn2
  rw [ho] at e1
  have hcb : (x.conn == 0) = false := by simp [hc]
  have HB2 : Hid (Below w.heap.size w (w.alloc (.cells #[.int .i64 x.conn, .bool false, .int .i64 x.silent, .int .i64 x.wrong, .int .i64 x.locked] 53))) := hide ((Below.refl _ _).alloc (Nat.le_refl _) _)
  have hrowA := RowAt.new w 53 [.int .i64 x.conn, .bool false, .int .i64 x.silent, .int .i64 x.wrong, .int .i64 x.locked]
  obtain ⟨wA, hA⟩ : ∃ wA, w.alloc (.cells #[.int .i64 x.conn, .bool false, .int .i64 x.silent, .int .i64 x.wrong, .int .i64 x.locked] 53) = wA := ⟨_, rfl⟩
  have hrowA2 : RowAt wA w.heap.size 53 [.int .i64 x.conn, .bool false, .int .i64 x.silent, .int .i64 x.wrong, .int .i64 x.locked] := hA ▸ hrowA
  have HRA := hide hrowA2
  rw [hA] at HB2
  have HWA := hide hA
  have c2A : wA.cell? ⟨g, 2, none⟩ = some (.slice a2 n2 c2) := ((unhide HH).call (unhide HB2)).obj.cell 2
  obtain ⟨be, oe, ha2, hrow⟩ : ∃ b off, a2 = some ⟨b, off, none⟩ ∧ EntRow wA b off n2 E S Dw := by
    have h2 := (unhide HPE).call (unhide HB2)
    rcases h2.2.2 with h | ⟨b', off', e, _, hr⟩
    · omega
    exact ⟨b', off', e, hr⟩
  obtain ⟨bq, oq, ha1, hbq, hrowq⟩ : ∃ b off, a1 = some ⟨b, off, none⟩ ∧ b < wA.heap.size ∧ QuoRow wA b off n1 Q1 Q2 Q3 := by
    have h2 := (unhide HPQ).call (unhide HB2)
    rcases h2.2.2 with h | ⟨b', off', e, hl', hr⟩
    · omega
    exact ⟨b', off', e, hl', hr⟩
  have f0 := (hrow i hin2).1
  rw [hE] at f0
  have k2 := (hrowq lb hlb).2.2
  rw [ha2] at c2A
  have hA1 := ((unhide HH).call (unhide HB2)).obj
  have HQ8 : Hid (∀ w', Below wA.heap.size wA w' → (w'.cell? ⟨g, 1, none⟩ = some (.slice (some ⟨bq, oq, none⟩) n1 c1) ∧ w'.cell? ⟨bq, oq + lb * 3 + 2, none⟩ = some (.int .i64 (Q3 lb))) ∧ Below wA.heap.size wA w') := hide (fun w' hb => ⟨⟨by have := (hA1.below hb hA1.lt).cell 1; rw [this, ← ha1]; rfl, by rw [hb.cell (p := ⟨bq, _, none⟩) hbq]; exact k2⟩, hb⟩)
  have HSE : Hid (∀ W, Below wA.heap.size wA W → Calls Try.prog 28 #[.pointer (some ⟨g, 0, none⟩), .int .i64 (lb : Int)] W fun r w' => r = .returned (.int .i64 (rsN R E (lb : Int) n2 : Int)) ∧ Below W.heap.size W w') := hide (fun W hW => rseats_ok (((unhide HH).call (unhide HB2)).call hW) (((unhide HPE).call (unhide HB2)).call hW) (unhide HN2) (lb : Int))
  obtain ⟨sn, hsn⟩ : ∃ s : Nat, rsN R E (lb : Int) n2 = s := ⟨_, rfl⟩
  rw [hsn] at HSE hs
  have lbI : (lb : Int) < (n1 : Int) := by omega
  have n1I : (n1 : Int) ≤ 32 := by omega
  have inI : (i : Int) < (n2 : Int) := by omega
  clear hrow hrowq ha2 ha1 k2 hA1 hsn hE hrowA hrowA2 hbq
  rw [← hA] at c2A f0
  clear hA
  go_enter Try.func18, Try.ntmps18
  go_wp2_with fail
  refine Calls.mono (unhide HNO) ?_
  rintro r w1 ⟨rfl, rfl⟩
  go_wp2_with fail
  rw [unhide HWA]
  clear c2A f0 e0 e1 e2 e3 e4 c3
  have k0 : Below wA.heap.size wA wA.drew := (Below.refl _ _).drew
  go_region_held3 (fun w' => (w'.cell? ⟨g, 1, none⟩ = some (.slice (some ⟨bq, oq, none⟩) n1 c1) ∧ w'.cell? ⟨bq, oq + lb * 3 + 2, none⟩ = some (.int .i64 (Q3 lb))) ∧ Below wA.heap.size wA w')
    (first | exact unhide HQ8 _ k0 | exact unhide HQ8 _ (by assumption))
    (first | (go_at_call 28; with_reducible refine Calls.mono (unhide HSE wA.drew k0) ?_; rintro e w5 ⟨rfl, b5⟩; have k5 : Below wA.heap.size wA w5 := k0.trans (b5.mono k0.size)))
  have HK5 := hide ((unhide HB2).trans (k5.mono (unhide HB2).size))
  clear k0 b5 HQ8 HSE
  go_wp2_with fail
  go_ret
  exact ⟨rfl, unhide HK5⟩
set_option maxRecDepth 100000 in
set_option maxHeartbeats 4000000 in
theorem ropen_ok {w : World} {g gg c n1 n2 c1 c2 : Nat} {s0 : Value} {a1 a2 : Option Addr} {ex : List Value} {R : List Rg} {E Q1 Q2 Q3 : Nat → Int} {S : Nat → ByteArray} {Dw : Nat → Bool} (h : Rk w g gg c s0 (.slice a1 n1 c1) (.slice a2 n2 c2) ex R) (pe : PolEnts w a2 n2 E S Dw) (pq : PolQuos w a1 n1 Q1 Q2 Q3) (hn2 : R.length = n2) (i lb : Nat) (x : Rg) (hx : R[i]? = some x) (hc : x.conn ≠ 0) (ho : x.opn = false) (hE : E i = (lb : Int)) (hlb : lb < n1) (hn1 : n1 ≤ 32) (hs : ¬ Q3 lb ≤ (rsN R E (lb : Int) n2 : Int)) : Calls Try.prog 18 #[.pointer (some ⟨g, 0, none⟩), .int .i64 (i : Int)] w fun r w' => r = .returned (.int .i64 0) ∧ RkD w w' g s0 (.slice a1 n1 c1) (.slice a2 n2 c2) (R.set i { x with opn := true, silent := 0 }) := by
  have HH0 := hide h
  have HPE := hide pe
  have HPQ := hide pq
  have HN2 := hide hn2
  clear pe pq
  have c3 : w.cell? ⟨g, 3, none⟩ = some (.slice (some ⟨gg, 0, none⟩) R.length c) := h.obj.cell 3
  have hl := h.le
  have HH := hide h
  have HNO := hide (rno_in h i (List.getElem?_eq_some_iff.1 hx).1)
  have e0 : w.cell? ⟨gg, i * 5, none⟩ = some (.int .i64 x.conn) := h.cell (f := 0) hx (by decide)
  have e1 : w.cell? ⟨gg, i * 5 + 1, none⟩ = some (.bool x.opn) := h.cell hx (by decide)
  have e2 : w.cell? ⟨gg, i * 5 + 2, none⟩ = some (.int .i64 x.silent) := h.cell hx (by decide)
  have e3 : w.cell? ⟨gg, i * 5 + 3, none⟩ = some (.int .i64 x.wrong) := h.cell hx (by decide)
  have e4 : w.cell? ⟨gg, i * 5 + 4, none⟩ = some (.int .i64 x.locked) := h.cell hx (by decide)
  have hi := (List.getElem?_eq_some_iff.1 hx).1
  obtain ⟨n, hn⟩ : ∃ n, R.length = n := ⟨_, rfl⟩
  have HN := hide hn
  rw [hn] at c3 hi hl
  have i2 : (i : Int) < (n : Int) := by omega
  have n8 : (n : Int) ≤ 8 := by omega
  have HX := hide hx
  clear h hn hx
  have hin2 : i < n2 := by have h1 := unhide HN2; have h2 := unhide HN; omega
  clear hn2
  rw [ho] at e1
  have hcb : (x.conn == 0) = false := by simp [hc]
  have HB2 : Hid (Below w.heap.size w (w.alloc (.cells #[.int .i64 x.conn, .bool false, .int .i64 x.silent, .int .i64 x.wrong, .int .i64 x.locked] 53))) := hide ((Below.refl _ _).alloc (Nat.le_refl _) _)
  have hrowA := RowAt.new w 53 [.int .i64 x.conn, .bool false, .int .i64 x.silent, .int .i64 x.wrong, .int .i64 x.locked]
  obtain ⟨wA, hA⟩ : ∃ wA, w.alloc (.cells #[.int .i64 x.conn, .bool false, .int .i64 x.silent, .int .i64 x.wrong, .int .i64 x.locked] 53) = wA := ⟨_, rfl⟩
  have hrowA2 : RowAt wA w.heap.size 53 [.int .i64 x.conn, .bool false, .int .i64 x.silent, .int .i64 x.wrong, .int .i64 x.locked] := hA ▸ hrowA
  have HRA := hide hrowA2
  rw [hA] at HB2
  have HWA := hide hA
  have c2A : wA.cell? ⟨g, 2, none⟩ = some (.slice a2 n2 c2) := ((unhide HH).call (unhide HB2)).obj.cell 2
  obtain ⟨be, oe, ha2, hrow⟩ : ∃ b off, a2 = some ⟨b, off, none⟩ ∧ EntRow wA b off n2 E S Dw := by
    have h2 := (unhide HPE).call (unhide HB2)
    rcases h2.2.2 with h | ⟨b', off', e, _, hr⟩
    · omega
    exact ⟨b', off', e, hr⟩
  obtain ⟨bq, oq, ha1, hbq, hrowq⟩ : ∃ b off, a1 = some ⟨b, off, none⟩ ∧ b < wA.heap.size ∧ QuoRow wA b off n1 Q1 Q2 Q3 := by
    have h2 := (unhide HPQ).call (unhide HB2)
    rcases h2.2.2 with h | ⟨b', off', e, hl', hr⟩
    · omega
    exact ⟨b', off', e, hl', hr⟩
  have f0 := (hrow i hin2).1
  rw [hE] at f0
  have k2 := (hrowq lb hlb).2.2
  rw [ha2] at c2A
  have hA1 := ((unhide HH).call (unhide HB2)).obj
  have HQ8 : Hid (∀ w', Below wA.heap.size wA w' → (w'.cell? ⟨g, 1, none⟩ = some (.slice (some ⟨bq, oq, none⟩) n1 c1) ∧ w'.cell? ⟨bq, oq + lb * 3 + 2, none⟩ = some (.int .i64 (Q3 lb))) ∧ Below wA.heap.size wA w') := hide (fun w' hb => ⟨⟨by have := (hA1.below hb hA1.lt).cell 1; rw [this, ← ha1]; rfl, by rw [hb.cell (p := ⟨bq, _, none⟩) hbq]; exact k2⟩, hb⟩)
  have HSE : Hid (∀ W, Below wA.heap.size wA W → Calls Try.prog 28 #[.pointer (some ⟨g, 0, none⟩), .int .i64 (lb : Int)] W fun r w' => r = .returned (.int .i64 (rsN R E (lb : Int) n2 : Int)) ∧ Below W.heap.size W w') := hide (fun W hW => rseats_ok (((unhide HH).call (unhide HB2)).call hW) (((unhide HPE).call (unhide HB2)).call hW) (unhide HN2) (lb : Int))
  obtain ⟨sn, hsn⟩ : ∃ s : Nat, rsN R E (lb : Int) n2 = s := ⟨_, rfl⟩
  rw [hsn] at HSE hs
  have lbI : (lb : Int) < (n1 : Int) := by omega
  have n1I : (n1 : Int) ≤ 32 := by omega
  have inI : (i : Int) < (n2 : Int) := by omega
  clear hrow hrowq ha2 ha1 k2 hA1 hsn hE hrowA hrowA2 hbq
  rw [← hA] at c2A f0
  clear hA
  go_enter Try.func18, Try.ntmps18
  go_wp2_with fail
  refine Calls.mono (unhide HNO) ?_
  rintro r w1 ⟨rfl, rfl⟩
  go_wp2_with fail
  rw [unhide HWA]
  clear c2A f0 e0 e1 e2 e3 e4 c3
  have k0 : Below wA.heap.size wA wA.drew := (Below.refl _ _).drew
  go_region_held3 (fun w' => (w'.cell? ⟨g, 1, none⟩ = some (.slice (some ⟨bq, oq, none⟩) n1 c1) ∧ w'.cell? ⟨bq, oq + lb * 3 + 2, none⟩ = some (.int .i64 (Q3 lb))) ∧ Below wA.heap.size wA w')
    (first | exact unhide HQ8 _ k0 | exact unhide HQ8 _ (by assumption))
    (first | (go_at_call 28; with_reducible refine Calls.mono (unhide HSE wA.drew k0) ?_; rintro e w5 ⟨rfl, b5⟩; have k5 : Below wA.heap.size wA w5 := k0.trans (b5.mono k0.size)))
  have HK5 := hide ((unhide HB2).trans (k5.mono (unhide HB2).size))
  have hr5 := (unhide HRA).below k5 (unhide HRA).lt
  have g0 : w5.cell? ⟨w.heap.size, 0, none⟩ = some (.int .i64 x.conn) := hr5.cell 0
  have g1 : w5.cell? ⟨w.heap.size, 1, none⟩ = some (.bool false) := hr5.cell 1
  have g2 : w5.cell? ⟨w.heap.size, 2, none⟩ = some (.int .i64 x.silent) := hr5.cell 2
  have g3 : w5.cell? ⟨w.heap.size, 3, none⟩ = some (.int .i64 x.wrong) := hr5.cell 3
  have g4 : w5.cell? ⟨w.heap.size, 4, none⟩ = some (.int .i64 x.locked) := hr5.cell 4
  have z1 : w5.frozen? ⟨w.heap.size, 1, none⟩ = false := hr5.frozen 1
  have z2 : w5.frozen? ⟨w.heap.size, 2, none⟩ = false := hr5.frozen 2
  have hB6 : Below w.heap.size w ((w5.setCell ⟨w.heap.size, 1, none⟩ (.bool true)).setCell ⟨w.heap.size, 2, none⟩ (.int .i64 0)) := (((Only.of_below (p := (· = w.heap.size)) (unhide HK5)).set w.heap.size 1 (.bool true) rfl).set w.heap.size 2 (.int .i64 0) rfl).below (Nat.le_refl _) (fun q hq => by omega)
  have HB6 := hide hB6
  clear k0 b5 k5 HQ8 HSE hr5 hB6
  go_wp2_with fail
  refine Calls.mono (rset_ok g gg c s0 (.slice a1 n1 c1) (.slice a2 n2 c2) ex R _ ((unhide HH).call (unhide HB6)) i (by rw [unhide HN]; exact hi) { x with opn := true, silent := 0 }) ?_
  rintro r w9 ⟨rfl, ⟨gg', c', ex', hd, -⟩, ho9⟩
  have HD : Hid (RkD w w9 g s0 (.slice a1 n1 c1) (.slice a2 n2 c2) (R.set i { x with opn := true, silent := 0 })) := hide ⟨⟨gg', c', ex', hd⟩, (Only.of_below (unhide HB6)).trans ho9⟩
  clear hd ho9
  go_wp2_with fail
  go_ret
  exact ⟨rfl, unhide HD⟩
end Go.Proofs.Ythgacmlbmcehmaa
