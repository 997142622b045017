/- Whether a message may be: the document's answer. -/
import Derived.Test.YtbnfilhilgjnfaaDoorGChk
import Derived.Test.YtbnfilhilgjnfaaDoorERsz
import Derived.Test.YtbnfilhilgjnfaaDoorEWgr
namespace Go.Proofs.YtbnfilhilgjnfaaDoor
set_option linter.unusedVariables false
set_option linter.unusedSimpArgs false
open Go.ChangeShapes Go.WideShapes Go.ChangeAt Go.RowKit Go.Joins

set_option maxRecDepth 100000 in
set_option maxHeartbeats 4000000 in
theorem rlight_any (a : Option Addr) (l : List Ed.Pt) (c : Nat) (w : World) (hp : Ed.PtsAt w a l) (hc : l.length ≤ 4000) (hs : ∀ p ∈ l, p.text.size ≤ 281474976710656) :
    Calls Tryd.prog 13 #[.slice a l.length c] w fun r w' => r = .returned (.bool (lightB l)) ∧ Below w.heap.size w w' := by
  obtain ⟨n, hn⟩ : ∃ n, l.length = n := ⟨_, rfl⟩
  have H1 := hide (Ed.rsize_any a l c w hp (by unfold maxLen; omega) hs)
  have H2 : Hid (∀ w1, Below w.heap.size w w1 → Calls Tryd.prog 31 #[.slice a l.length c] w1 fun r w' => r = .returned (Ed.wVal l) ∧ Below w1.heap.size w1 w') := hide (fun w1 hb => Ed.rweight_any a l c w1 (hp.call hb) hc hs)
  rw [hn] at H1 H2 hc ⊢
  have HN := hide hn
  clear hp hs hn
  go_enter Tryd.func13, Tryd.ntmps13
  go_wp2_with fail
  refine Calls.mono (unhide H1) ?_
  rintro e w1 ⟨rfl, b1⟩
  have H3 := hide (unhide H2 w1 b1)
  have HB1 := hide b1
  clear b1 H1 H2
  unfold Ed.szVal
  cases hsz : Ed.sizeL l with
  | none =>
    go_wp2_with fail
    refine Calls.mono (unhide H3) ?_
    rintro e w2 ⟨rfl, b2⟩
    have HB2 := hide ((unhide HB1).trans (b2.mono (unhide HB1).size))
    clear b2 H3
    unfold Ed.wVal
    cases hw : Ed.wL l with
    | none =>
      go_wp2_with fail
      go_ret
      exact ⟨by unfold lightB; rw [hsz]; simp, unhide HB2⟩
    | some q =>
      obtain ⟨p, d⟩ := q
      go_wp2_with fail
      go_ret
      exact ⟨by unfold lightB; rw [hsz]; simp, unhide HB2⟩
  | some q =>
    obtain ⟨f, t, kk⟩ := q
    go_wp2_with fail
    refine Calls.mono (unhide H3) ?_
    rintro e w2 ⟨rfl, b2⟩
    have HB2 := hide ((unhide HB1).trans (b2.mono (unhide HB1).size))
    clear b2 H3
    unfold Ed.wVal
    cases hw : Ed.wL l with
    | none =>
      by_cases h4 : n ≤ 400
      · have h4z : (n : Int) ≤ 400 := by omega
        have h4d : decide ((n : Int) ≤ 400) = true := by simpa using h4z
        go_wp2_with fail
        go_ret
        exact ⟨by have := unhide HN; unfold lightB putsP; rw [hsz, hw, this]; simp [h4], unhide HB2⟩
      · have h4z : ¬ (n : Int) ≤ 400 := by omega
        have h4d : decide ((n : Int) ≤ 400) = false := by simpa using h4z
        go_wp2_with fail
        go_ret
        exact ⟨by have := unhide HN; unfold lightB putsP; rw [hsz, hw, this]; simp [h4], unhide HB2⟩
    | some q =>
      obtain ⟨p, d⟩ := q
      by_cases h4 : n ≤ 400
      · have h4z : (n : Int) ≤ 400 := by omega
        have h4d : decide ((n : Int) ≤ 400) = true := by simpa using h4z
        go_wp2_with fail
        go_ret
        exact ⟨by have := unhide HN; unfold lightB putsP; rw [hsz, hw, this]; simp [h4], unhide HB2⟩
      · have h4z : ¬ (n : Int) ≤ 400 := by omega
        have h4d : decide ((n : Int) ≤ 400) = false := by simpa using h4z
        go_wp2_with fail
        go_ret
        exact ⟨by have := unhide HN; unfold lightB putsP; rw [hsz, hw, this]; simp [h4], unhide HB2⟩
/-- the fields of a kind, as letters -/
def ltr : Nat → List UInt8
  | 1 => [114]
  | 2 => [115, 114, 69]
  | 3 => [115, 114, 97, 110, 116]
  | 4 => [114, 97]
  | 6 => [101]
  | 7 => [114, 115]
  | 8 => [114, 119, 115, 69]
  | 9 => [115, 101]
  | 10 => [119, 114, 97]
  | _ => []
set_option maxRecDepth 100000 in
set_option maxHeartbeats 4000000 in
theorem letters_any (k : Nat) (w : World) (h1 : 1 ≤ k) (h2 : k ≤ 10) : Calls Tryd.prog 26 #[.int .i64 (k : Int)] w fun r w' => r = .returned (.string ⟨(ltr k).toArray⟩) ∧ w = w' := by
  have : k = 1 ∨ k = 2 ∨ k = 3 ∨ k = 4 ∨ k = 5 ∨ k = 6 ∨ k = 7 ∨ k = 8 ∨ k = 9 ∨ k = 10 := by omega
  rcases this with rfl | rfl | rfl | rfl | rfl | rfl | rfl | rfl | rfl | rfl <;>
  · go_enter Tryd.func26, Tryd.ntmps26
    go_wp2_with fail
    go_ret
    exact ⟨rfl, rfl⟩
def hasB (l : List UInt8) (x : Nat) : Bool := l.any (fun y => y.toNat == x)
theorem hasB_none {l : List UInt8} {x j : Nat} (h : ∀ i, i < j → (l.getD i 0).toNat ≠ x) (hj : j = l.length) : hasB l x = false := by
  unfold hasB
  rw [List.any_eq_false]
  intro y hy
  obtain ⟨i, hi⟩ := List.getElem?_of_mem hy
  have hlt : i < l.length := by
    rcases Nat.lt_or_ge i l.length with h | h
    · exact h
    · rw [List.getElem?_eq_none h] at hi; cases hi
  have := h i (by omega)
  rw [List.getD_eq_getElem?_getD, hi] at this
  simpa using this
theorem hasB_some {l : List UInt8} {x j : Nat} (hj : j < l.length) (h : (l.getD j 0).toNat = x) : hasB l x = true := by
  unfold hasB
  rw [List.any_eq_true]
  refine ⟨l[j], List.getElem_mem hj, ?_⟩
  rw [List.getD_eq_getElem?_getD, List.getElem?_eq_getElem hj] at h
  simpa using h
set_option maxRecDepth 100000 in
set_option maxHeartbeats 4000000 in
theorem has_any (l : List UInt8) (x : Nat) (w : World) (hl : l.length ≤ 1000) (hx : x < 256) : Calls Tryd.prog 27 #[.string ⟨l.toArray⟩, .int .u8 (x : Int)] w fun r w' => r = .returned (.bool (hasB l x)) ∧ w = w' := by
  obtain ⟨n, hn⟩ : ∃ n, l.length = n := ⟨_, rfl⟩
  have hsz : (⟨l.toArray⟩ : ByteArray).size = n := by rw [← hn]; rfl
  obtain ⟨s, hs⟩ : ∃ s, (⟨l.toArray⟩ : ByteArray) = s := ⟨_, rfl⟩
  have HG : Hid (∀ i (hi : i < s.size), s[i]'hi = l.getD i 0) := hide (by
    subst hs
    intro i hi
    have hi' : i < l.length := hi
    rw [List.getD_eq_getElem?_getD, List.getElem?_eq_getElem hi']
    rfl)
  rw [hs] at hsz ⊢
  have HN := hide hn
  have nI : n ≤ 1000 := by omega
  clear hn hs
  go_enter Tryd.func27, Tryd.ntmps27
  go_wp2_with fail
  go_loopw [8] (fun i wr => ∃ j : Nat, j ≤ n ∧ i = .int .i64 (j : Int) ∧ w = wr ∧ Hid (∀ i, i < j → (l.getD i 0).toNat ≠ x)) (fun i _ => ((n : Int) - intOf i).toNat)
  case atStart => exact ⟨0, by omega, by simp, rfl, hide (fun i hi => by omega)⟩
  case round =>
    obtain ⟨j, hj, rfl, rfl, HI⟩ := hrel
    by_cases hlt : j < n
    · have jI : (j : Int) < (s.size : Int) := by omega
      have jN : j < s.size := by omega
      obtain ⟨y, hy⟩ : ∃ y, s[j]'jN = y := ⟨_, rfl⟩
      have HY : Hid ((l.getD j 0).toNat = y.toNat) := hide (by rw [← unhide HG j jN, hy])
      by_cases hxy : y.toNat = x
      · have hb : ((y.toNat : Int) == (x : Int)) = true := by simp [hxy]
        have HE : Hid (hasB l x = true) := hide (hasB_some (j := j) (by rw [unhide HN]; exact hlt) (by rw [unhide HY]; exact hxy))
        go_wp2_with fail
        go_ret
        exact ⟨by rw [unhide HE]; rfl, rfl⟩
      · have hb : ((y.toNat : Int) == (x : Int)) = false := by simpa using (fun h => hxy (by omega))
        have HXY := hide hxy
        clear hxy
        go_wp2_with fail
        go_roundw
        case rel => exact ⟨j + 1, by omega, by go_num, by first | trivial | rfl, hide (fun i hi => by
          by_cases h : i = j
          · subst h; rw [unhide HY]; exact unhide HXY
          · exact unhide HI i (by omega))⟩
        case measure => simp [intOf]; omega
    · obtain rfl : n = j := by omega
      have jI : ¬ (n : Int) < (s.size : Int) := by omega
      have HE : Hid (hasB l x = false) := hide (hasB_none (unhide HI) (unhide HN).symm)
      go_wp2_with fail
      go_ret
      exact ⟨by rw [unhide HE]; rfl, rfl⟩
end Go.Proofs.YtbnfilhilgjnfaaDoor
