/- Labels that are cloned, put behind, and looked through. -/
import Derived.Test.YtbahnkomdndmkaaRight
import Derived.Lib.LazyBuf
namespace Go.Proofs.Ytbahnkomdndmkaa
set_option linter.unusedVariables false
set_option linter.unusedSimpArgs false
open Go.ChangeShapes Go.WideShapes Go.ChangeAt Go.RowKit

theorem info24 : (Try.prog.info? 24).map (fun i => (i.zero, i.size, i.bytes)) = some (some (.agg #[.int .i64 0, .int .u32 0]), 2, 16) := by kernel_rfl

def labVals (L C : Nat → Int) : Nat → List Value
  | 0 => []
  | n + 1 => labVals L C n ++ [.int .i64 (L n), .int .u32 (C n)]
theorem labVals_len (L C : Nat → Int) (n : Nat) : (labVals L C n).length = n * 2 := by
  induction n with
  | zero => rfl
  | succ n ih => simp [labVals, ih]; omega
theorem labVals_get (L C : Nat → Int) (n i : Nat) (h : i < n) : (labVals L C n)[i * 2]? = some (.int .i64 (L i)) ∧ (labVals L C n)[i * 2 + 1]? = some (.int .u32 (C i)) := by
  induction n with
  | zero => omega
  | succ n ih =>
    simp only [labVals]
    by_cases hi : i < n
    · rw [List.getElem?_append_left (by rw [labVals_len]; omega), List.getElem?_append_left (by rw [labVals_len]; omega)]
      exact ih hi
    · have : i = n := by omega
      subst this
      rw [List.getElem?_append_right (by rw [labVals_len]; omega), List.getElem?_append_right (by rw [labVals_len]; omega), labVals_len]
      simp
theorem labVals_inv (L C : Nat → Int) (n j : Nat) (u : Value) (h : (labVals L C n)[j]? = some u) : ∃ i, i < n ∧ ((j = i * 2 ∧ u = .int .i64 (L i)) ∨ (j = i * 2 + 1 ∧ u = .int .u32 (C i))) := by
  have hj : j < n * 2 := by
    by_cases hj : j < n * 2
    · exact hj
    · rw [List.getElem?_eq_none (by rw [labVals_len]; omega)] at h; cases h
  refine ⟨j / 2, by omega, ?_⟩
  have := labVals_get L C n (j / 2) (by omega)
  by_cases hp : j % 2 = 0
  · have e : j / 2 * 2 = j := by omega
    rw [e] at this
    rw [this.1] at h
    exact .inl ⟨by omega, (Option.some.inj h).symm⟩
  · have e : j / 2 * 2 + 1 = j := by omega
    rw [e] at this
    rw [this.2] at h
    exact .inr ⟨by omega, (Option.some.inj h).symm⟩
theorem labVals_one (L C : Nat → Int) (n : Nat) : ∀ u ∈ labVals L C n, u.oneCell' = true := by
  intro u hu
  obtain ⟨j, hj⟩ := List.getElem?_of_mem hu
  obtain ⟨i, _, ⟨_, rfl⟩ | ⟨_, rfl⟩⟩ := labVals_inv L C n j u hj
  · rfl
  · rfl
theorem labRow_news {w : World} {b off n : Nat} {L C : Nat → Int} (h : LabRow w b off n L C) : ∀ j u, (labVals L C n)[j]? = some u → w.cell? ((⟨b, off, none⟩ : Addr).add j) = some u := by
  intro j u hj
  rw [add_plain]
  obtain ⟨i, hi, ⟨rfl, rfl⟩ | ⟨rfl, rfl⟩⟩ := labVals_inv L C n j u hj
  · exact (h i hi).1
  · exact (h i hi).2
theorem polLabs_own {w : World} {base n : Nat} {v : Value} {L C : Nat → Int} (hn : n ≤ maxLen) (hc : ∀ i, i < n → U32 (C i)) (h : w.ownsRow base 24 2 v n (labVals L C n)) :
    ∃ a cap, v = .slice a n cap ∧ PolLabs w a n L C ∧ n ≤ cap ∧ cap ≤ maxLen := by
  have h0 := h
  obtain ⟨_, ⟨rfl, rfl⟩ | ⟨g, cap, cur, rfl, hg, hh, h1, h2, h3, h4⟩⟩ := h
  · exact ⟨none, 0, rfl, ⟨hn, hc, .inl rfl⟩, Nat.le_refl _, Nat.zero_le _⟩
  · refine ⟨some ⟨g, 0, none⟩, cap, rfl, ⟨hn, hc, .inr ⟨g, 0, rfl, ?_, ?_⟩⟩, h1, h2⟩
    · by_cases hlt : g < w.heap.size
      · exact hlt
      · rw [Array.getElem?_eq_none (Nat.le_of_not_lt hlt)] at hh; cases hh
    · intro i hi
      have e := labVals_get L C n i hi
      have q1 := h0.cells rfl _ _ e.1
      have q2 := h0.cells rfl _ _ e.2
      rw [add_plain] at q1 q2
      exact ⟨q1, by rw [Nat.add_assoc]; exact q2⟩

set_option maxHeartbeats 1000000 in
theorem clonel_any (b off n cap : Nat) (L C : Nat → Int) (w : World) (hr : LabRow w b off n L C) (hb : b < w.heap.size) (hn : n ≤ 200) :
    Calls Try.prog 26 #[.slice (some ⟨b, off, none⟩) n cap] w fun e w' => ∃ v, e = .returned v ∧ w'.ownsRow w.heap.size 24 2 v n (labVals L C n) ∧ Below w.heap.size w w' := by
  obtain ⟨i0, hi, hz0, hz1, hz2⟩ := info_parts info24
  have hq := fun W => Go.run_eql_slice_nil (P := Try.prog) W 29 24 (some ⟨b, off, none⟩) n cap Try.underlying29
  have hnews := labRow_news (LabRow.below hr ((Below.refl _ _).alloc (Nat.le_refl _) (.cells #[] 24)) hb)
  have HN := hide hnews
  clear hnews
  have hlen := labVals_len L C n
  have HL := hide hlen
  clear hlen
  have hown : (w.alloc (.cells #[] 24)).ownsRow w.heap.size 24 2 (.slice (some ⟨w.heap.size, 0, none⟩) 0 0) 0 [] := World.ownsRow_made w #[] 0 (Nat.le_refl _) (Nat.zero_le _) rfl
  go_enter Try.func26, Try.ntmps26
  go_wp2_with (at_builtin; refine wpList_append_own _ rfl _ _ 29 rfl w.heap.size 24 i0 (.agg #[.int .i64 0, .int .u32 0]) 2 16 Try.underlying29 hi hz0 hz1 hz2 rfl (by decide) _ _ _ rfl hown ⟨b, off, none⟩ n cap (labVals L C n) rfl ?c0 ?c1 ?c2 ?c3 ?c4 ?c5 ?_)
  case c0 => exact unhide HL
  case c1 => exact unhide HN
  case c2 => exact labVals_one L C n
  case c3 => unfold maxLen; omega
  case c4 => omega
  case c5 => simp
  intro v' w' hown' hgrow _
  go_wp2
  go_ret
  refine ⟨_, rfl, ?_, ?_⟩
  · simpa using hown'
  · exact ((Below.refl _ _).alloc (Nat.le_refl _) _).grown hgrow (by simp) (fun k hk => by simp [Value.ownBlock] at hk; omega)

/-- the closure of the statement: whether a label may not be -/
theorem clob_any (l c : Int) (w : World) :
    Calls Try.prog 27 #[.agg #[.int .i64 l, .int .u32 c]] w fun e w' => e = .returned (.bool (checkN l != 0)) ∧ Below w.heap.size w w' := by
  have hB : Below w.heap.size w (w.alloc (.cells #[.int .i64 l, .int .u32 c] 24)) := by go_grown
  go_enter Try.func27, Try.ntmps27
  go_wp2_with (go_at_call 8; refine (check_any _ _ _).mono ?_; rintro e w' ⟨rfl, hb⟩)
  go_ret
  exact ⟨rfl, hB.trans (hb.mono hB.size)⟩

def badB (n : Nat) (L : Nat → Int) : Bool := !(allB n fun i => !(checkN (L i) != 0))
theorem bad_true {n k : Nat} {L : Nat → Int} (hk : k < n) (h : (checkN (L k) != 0) = true) : badB n L = true := by
  rw [badB, allB_false hk (by simp [h])]
  rfl
theorem bad_false {n : Nat} {L : Nat → Int} (h : ∀ i, i < n → (checkN (L i) != 0) = false) : badB n L = false := by
  rw [badB, allB_true (fun j hj => by simp [h j hj])]
  rfl

set_option maxHeartbeats 1000000 in
theorem indexf_any (a : Option Addr) (n cap : Nat) (L C : Nat → Int) (w : World) (hp : PolLabs w a n L C) :
    Calls Try.prog 41 #[.slice a n cap, .func (.func 27) #[] #[]] w fun e w' => (∃ r : Int, e = .returned (.int .i64 r) ∧ decide (0 ≤ r) = badB n L) ∧ Below w.heap.size w w' := by
  have hn : (n : Int) ≤ 9223372036854775807 := by have := hp.1; unfold maxLen at this; omega
  go_enter Try.func41, Try.ntmps41
  go_wp2_with fail
  go_loopw [8] (fun i wr => ∃ k : Nat, k ≤ n ∧ i = .int .i64 k ∧ (∀ j, j < k → (checkN (L j) != 0) = false) ∧ Below w.heap.size w wr) (fun i _ => n - (intOf i).toNat)
  case atStart => exact ⟨0, Nat.zero_le _, rfl, fun j hj => by omega, Below.refl _ _⟩
  case round =>
    obtain ⟨k, hk, rfl, hall, bel⟩ := hrel
    have HA := hide hall
    clear hall
    by_cases hlt : k < n
    · rcases hp.2.2 with h0 | ⟨b, off, rfl, hb, hrow⟩
      · omega
      have hc := (hrow.below bel hb) k hlt
      have g1 : (0 : Int) ≤ (k : Int) := by omega
      have g2 : (k : Int) < (n : Int) := by omega
      cases hck : (checkN (L k) != 0)
      · go_wp2_with (go_at_call 27; refine (clob_any _ _ _).mono ?_; rintro e w' ⟨rfl, hb1⟩; rw [hck])
        go_roundw
        case rel =>
          refine ⟨k + 1, by omega, by go_num, fun j hj => ?_, bel.trans (hb1.mono bel.size)⟩
          by_cases hjk : j = k
          · subst hjk; exact hck
          · exact unhide HA j (by omega)
        case measure => simp [intOf]; omega
      · go_wp2_with (go_at_call 27; refine (clob_any _ _ _).mono ?_; rintro e w' ⟨rfl, hb1⟩; rw [hck])
        go_ret
        exact ⟨⟨(k : Int), rfl, by rw [bad_true hlt hck]; simp⟩, bel.trans (hb1.mono bel.size)⟩
    · have hkn : k = n := by omega
      subst hkn
      go_wp2
      go_ret
      exact ⟨⟨-1, rfl, by rw [bad_false (unhide HA)]; rfl⟩, bel⟩

set_option maxHeartbeats 400000 in
theorem containsf_any (a : Option Addr) (n cap : Nat) (L C : Nat → Int) (w : World) (hp : PolLabs w a n L C) :
    Calls Try.prog 25 #[.slice a n cap, .func (.func 27) #[] #[]] w fun e w' => e = .returned (.bool (badB n L)) ∧ Below w.heap.size w w' := by
  go_enter Try.func25, Try.ntmps25
  go_wp2_with fail
  refine (indexf_any a n cap L C _ hp).mono ?_
  rintro e w1 ⟨⟨r, rfl, hr⟩, hb1⟩
  have HR := hide hr
  clear hr
  go_wp2
  go_ret
  exact ⟨by rw [← unhide HR]; rfl, hb1⟩
end Go.Proofs.Ytbahnkomdndmkaa
