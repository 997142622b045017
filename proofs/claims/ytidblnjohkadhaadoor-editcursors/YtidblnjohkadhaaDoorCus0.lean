/- Where any place is behind any edit: the walk. -/
import Derived.Test.YtidblnjohkadhaaDoorRcu
import Derived.Test.YtidblnjohkadhaaDoorCur
import Derived.Test.YtidblnjohkadhaaDoorNar
namespace Go.Proofs.YtidblnjohkadhaaDoor
set_option linter.unusedVariables false
set_option linter.unusedSimpArgs false
open Go.ChangeShapes Go.WideShapes Go.ChangeAt Go.RowKit Go.Joins Go.Deep

set_option maxRecDepth 100000 in
set_option maxHeartbeats 4000000 in
theorem cursor_no {w W : World} {a : Option Addr} {l : List Pt} {c n : Nat} (hU : UT W) (he : Edit W a l c) (hn : l.length = n) {i : Int} (hz : sizeL l = none) (ah : Bool) (hb : Below w.heap.size w W) :
    Calls Tryd.prog 48 #[.slice a n c, .int .i64 i, .bool ah] W fun r w' => r = .returned (.tuple #[.int .i64 0, .int .i64 30]) ∧ Below w.heap.size w w' := by
  have HSZ := hide (size_at (w := w) hU he hn hb)
  have e : szVal l = .tuple #[.int .i64 0, .int .i64 0, .int .i64 30] := by unfold szVal; rw [hz]
  rw [e] at HSZ
  clear hU he hn hb e hz
  go_enter Tryd.func48, Tryd.ntmps48
  go_wp2_with fail
  refine Calls.mono (unhide HSZ) ?_
  rintro r w2 ⟨rfl, hb2⟩
  have HB2 := hide hb2
  clear hb2
  go_wp2_with fail
  go_ret2
  exact ⟨rfl, unhide HB2⟩
set_option maxRecDepth 100000 in
set_option maxHeartbeats 4000000 in
theorem cursor_out {w W : World} {a : Option Addr} {l : List Pt} {c n : Nat} (hU : UT W) (he : Edit W a l c) (hn : l.length = n) {i : Int} {F T : Nat} (hd : IsEd l F T) (hi : ¬ (0 ≤ i ∧ i ≤ (F : Int))) (ah : Bool) (hb : Below w.heap.size w W) :
    Calls Tryd.prog 48 #[.slice a n c, .int .i64 i, .bool ah] W fun r w' => r = .returned (.tuple #[.int .i64 0, .int .i64 30]) ∧ Below w.heap.size w w' := by
  have HSZ := hide (size_at (w := w) hU he hn hb)
  have e : szVal l = .tuple #[.int .i64 (F : Int), .int .i64 (T : Int), .int .i64 0] := by unfold szVal; rw [ed_size hd]
  rw [e] at HSZ
  have HW : Hid (∀ W : World, Calls Tryd.prog 60 #[.int .i64 i, .int .i64 (F : Int)] W fun r w' => r = .returned (.bool false) ∧ W = w') := hide (fun W => by
    have h := within_any i (F : Int) W
    rw [show (decide ((0 : Int) ≤ i) && decide (i ≤ (F : Int))) = false by simp only [Bool.and_eq_false_iff, decide_eq_false_iff_not]; omega] at h
    exact h)
  clear hU he hn hd hb e hi
  go_enter Tryd.func48, Tryd.ntmps48
  go_wp2_with fail
  refine Calls.mono (unhide HSZ) ?_
  rintro r w2 ⟨rfl, hb2⟩
  have HB2 := hide hb2
  clear hb2
  go_wp2_with fail
  refine Calls.mono (unhide HW _) ?_
  rintro r w3 ⟨rfl, rfl⟩
  go_wp2_with fail
  go_ret2
  exact ⟨rfl, unhide HB2⟩
set_option maxRecDepth 100000 in
set_option maxHeartbeats 4000000 in
theorem rcursor_no {w W : World} {a : Option Addr} {l : List Pt} {c n : Nat} (hU : UT W) (he : Edit W a l c) (hn : l.length = n) {i : Int} (hz : sizeL l = none) (ah : Bool) (hb : Below w.heap.size w W) :
    Calls Tryd.prog 49 #[.slice a n c, .int .i64 i, .bool ah] W fun r w' => r = .returned (.tuple #[.int .i64 0, .int .i64 30]) ∧ Below w.heap.size w w' := by
  have HSZ := hide (rsize_at (w := w) he hn hb)
  have e : szVal l = .tuple #[.int .i64 0, .int .i64 0, .int .i64 30] := by unfold szVal; rw [hz]
  rw [e] at HSZ
  clear hU he hn hb e hz
  go_enter Tryd.func49, Tryd.ntmps49
  go_wp2_with fail
  refine Calls.mono (unhide HSZ) ?_
  rintro r w2 ⟨rfl, hb2⟩
  have HB2 := hide hb2
  clear hb2
  go_wp2_with fail
  go_ret2
  exact ⟨rfl, unhide HB2⟩
set_option maxRecDepth 100000 in
set_option maxHeartbeats 4000000 in
theorem rcursor_out {w W : World} {a : Option Addr} {l : List Pt} {c n : Nat} (hU : UT W) (he : Edit W a l c) (hn : l.length = n) {i : Int} {F T : Nat} (hd : IsEd l F T) (hi : ¬ (0 ≤ i ∧ i ≤ (F : Int))) (ah : Bool) (hb : Below w.heap.size w W) :
    Calls Tryd.prog 49 #[.slice a n c, .int .i64 i, .bool ah] W fun r w' => r = .returned (.tuple #[.int .i64 0, .int .i64 30]) ∧ Below w.heap.size w w' := by
  have HSZ := hide (rsize_at (w := w) he hn hb)
  have e : szVal l = .tuple #[.int .i64 (F : Int), .int .i64 (T : Int), .int .i64 0] := by unfold szVal; rw [ed_size hd]
  rw [e] at HSZ
  clear hU he hn hd hb e
  by_cases h0 : i < 0
  · clear hi
    go_enter Tryd.func49, Tryd.ntmps49
    go_wp2_with fail
    refine Calls.mono (unhide HSZ) ?_
    rintro r w2 ⟨rfl, hb2⟩
    have HB2 := hide hb2
    clear hb2
    go_wp2_with fail
    go_ret2
    exact ⟨rfl, unhide HB2⟩
  · have h1 : (F : Int) < i := by omega
    clear hi
    go_enter Tryd.func49, Tryd.ntmps49
    go_wp2_with fail
    refine Calls.mono (unhide HSZ) ?_
    rintro r w2 ⟨rfl, hb2⟩
    have HB2 := hide hb2
    clear hb2
    go_wp2_with fail
    go_ret2
    exact ⟨rfl, unhide HB2⟩
theorem rcursor_at {w W : World} {a : Option Addr} {l : List Pt} {c n F T : Nat} (he : Edit W a l c) (hn : l.length = n) (hd : IsEd l F T) {at_ : Nat} (ha : at_ ≤ F) (hc : n ≤ 4194304) (ah : Bool) (hb : Below w.heap.size w W) :
    Calls Tryd.prog 49 #[.slice a n c, .int .i64 (at_ : Int), .bool ah] W fun r w' => r = .returned (.tuple #[.int .i64 (At.cur (atomsL l) at_ ah : Int), .int .i64 0]) ∧ Below w.heap.size w w' := by
  subst hn
  refine Calls.mono (rcursor_ed a l c F T at_ ah W he hd ha hc) ?_
  rintro r w' ⟨rfl, h⟩
  exact ⟨rfl, hb.trans (h.mono hb.size)⟩
set_option maxRecDepth 100000 in
set_option maxHeartbeats 4000000 in
theorem cursors_law (a : Option Addr) (la : List Pt) (ca : Nat) (i : Int) (ah : Bool) (w : World) (hT : UT w) (ea : Edit w a la ca) (i0 : -9223372036854775808 ≤ i) (i1 : i ≤ 9223372036854775807) : Calls Tryd.prog 10 #[.slice a la.length ca, .int .i64 i, .bool ah] w fun r w' => r = .returned (.bool true) ∧ Below w.heap.size w w' := by
  have HU : Hid (∀ W, Below w.heap.size w W → UT W) := hide (fun W h => hT.call h)
  have HB0 := hide (Below.refl w.heap.size w)
  have Ea : Hid (∀ W, Below w.heap.size w W → Edit W a la ca) := hide (fun W h => ea.call h)
  have Ta := hide (⟨ea.txt, ea.cap, ea.max, ea.num⟩ : _ ∧ _ ∧ _ ∧ _)
  have hbL : Below w.heap.size w (w.alloc (.cells #[.slice a la.length ca] 22)) := (Below.refl _ _).alloc (Nat.le_refl _) _
  have HLT := hide (narrow_any w.heap.size [⟨a, la, ca⟩] (w.alloc (.cells #[.slice a la.length ca] 22)) (RowAt.new w 22 _) (by
    intro e he
    simp only [List.mem_cons, List.not_mem_nil, or_false] at he
    rcases he with rfl
    · exact (ea.call hbL).pts
    ) (by
    intro e he
    simp only [List.mem_cons, List.not_mem_nil, or_false] at he
    rcases he with rfl
    · exact Nat.le_trans ea.cap ea.max
    ) (by
    intro e he
    simp only [List.mem_cons, List.not_mem_nil, or_false] at he
    rcases he with rfl
    · exact ea.txt2
    ) (by simp))
  have HBL := hide hbL
  obtain ⟨na, hna⟩ : ∃ z, la.length = z := ⟨_, rfl⟩
  simp only [hna] at HLT HBL ⊢
  have Na := hide hna
  clear hT hbL ea hna
  go_enter Tryd.func10, Tryd.ntmps10
  go_wp2_with fail
  refine Calls.mono (unhide HLT) ?_
  rintro r w1 ⟨⟨lb_, rfl, hlb⟩, hb1⟩
  have HB1 := hide ((unhide HBL).trans (hb1.mono (unhide HBL).size))
  have HLB := hide hlb
  clear hb1 HLT hlb HBL
  cases lb_ with
  | false =>
    go_wp2_with fail
    refine Calls.mono (awake_any _ (unhide HU _ (unhide HB1))) ?_
    rintro r wa ⟨rfl, hba⟩
    have HBa := hide ((unhide HB1).trans (hba.mono (unhide HB1).size))
    clear hba
    go_wp2_with fail
    go_ret
    exact ⟨rfl, unhide HBa⟩
  | true =>
    have qa : Hid (na ≤ 200) := hide (by have h := (unhide HLB rfl).1 ⟨a, la, ca⟩ (by simp); rw [← unhide Na]; exact h)
    have HWS := hide (unhide HLB rfl).2
    clear HLB
    cases hz : sizeL la with
    | none =>
      have HZ := hide hz
      clear hz
      go_wp2_with fail
      refine Calls.mono (cursor_no (w := w1) (unhide HU _ (unhide HB1)) (unhide Ea _ (unhide HB1)) (unhide Na) (unhide HZ) ah (Below.refl w1.heap.size w1)) ?_
      rintro r w2 ⟨rfl, hb_⟩
      have HB2 := hide ((unhide HB1).trans (hb_.mono (unhide HB1).size))
      clear hb_
      go_wp2_with fail
      refine Calls.mono (rcursor_no (w := w2) (unhide HU _ (unhide HB2)) (unhide Ea _ (unhide HB2)) (unhide Na) (unhide HZ) ah (Below.refl w2.heap.size w2)) ?_
      rintro r w3 ⟨rfl, hb_⟩
      have HB3 := hide ((unhide HB2).trans (hb_.mono (unhide HB2).size))
      clear hb_
      go_wp2_with fail
      refine Calls.mono (awake_any _ (unhide HU _ (unhide HB3))) ?_
      rintro r wa ⟨rfl, hba⟩
      have HBa := hide ((unhide HB3).trans (hba.mono (unhide HB3).size))
      clear hba
      go_wp2_with fail
      go_ret
      exact ⟨rfl, unhide HBa⟩
    | some z =>
      obtain ⟨F, T, kk⟩ := z
      obtain ⟨hd, hF, -⟩ := size_ed hz
      have HD := hide hd
      obtain ⟨fn, hfn⟩ : ∃ z, F.toNat = z := ⟨_, rfl⟩
      rw [hfn] at HD hF
      clear hz hd hfn
      by_cases hi : 0 ≤ i ∧ i ≤ (fn : Int)
      · obtain ⟨hi0, hi1⟩ := hi
        obtain ⟨m, rfl⟩ : ∃ m : Nat, i = (m : Int) := ⟨i.toNat, by omega⟩
        have HM : Hid (m ≤ fn) := hide (by omega)
        clear hi0 hi1
        obtain ⟨x1, hx1⟩ : ∃ z, At.cur (atomsL la) m ah = z := ⟨_, rfl⟩
        have HX1 := hide hx1
        clear hx1
        have HC1 := hide (fun W hW => cursor_at (w := W) (unhide HU W hW) (unhide Ea W hW) (unhide Na) (unhide HD) (unhide HM) ah (Below.refl _ _))
        have HC2 := hide (fun W hW => rcursor_at (w := W) (unhide Ea W hW) (unhide Na) (unhide HD) (unhide HM) (by have := unhide qa; omega) ah (Below.refl _ _))
        simp only [unhide HX1] at HC1 HC2
        go_wp2_with fail
        refine Calls.mono (unhide HC1 _ (unhide HB1)) ?_
        rintro r w2 ⟨rfl, hb_⟩
        have HB2 := hide ((unhide HB1).trans (hb_.mono (unhide HB1).size))
        clear hb_
        go_wp2_with fail
        refine Calls.mono (unhide HC2 _ (unhide HB2)) ?_
        rintro r w3 ⟨rfl, hb_⟩
        have HB3 := hide ((unhide HB2).trans (hb_.mono (unhide HB2).size))
        clear hb_
        go_wp2_with fail
        refine Calls.mono (awake_any _ (unhide HU _ (unhide HB3))) ?_
        rintro r wa ⟨rfl, hba⟩
        have HBa := hide ((unhide HB3).trans (hba.mono (unhide HB3).size))
        clear hba
        go_wp2_with fail
        go_ret
        exact ⟨rfl, unhide HBa⟩
      · have HI := hide hi
        clear hi
        go_wp2_with fail
        refine Calls.mono (cursor_out (w := w1) (unhide HU _ (unhide HB1)) (unhide Ea _ (unhide HB1)) (unhide Na) (unhide HD) (unhide HI) ah (Below.refl w1.heap.size w1)) ?_
        rintro r w2 ⟨rfl, hb_⟩
        have HB2 := hide ((unhide HB1).trans (hb_.mono (unhide HB1).size))
        clear hb_
        go_wp2_with fail
        refine Calls.mono (rcursor_out (w := w2) (unhide HU _ (unhide HB2)) (unhide Ea _ (unhide HB2)) (unhide Na) (unhide HD) (unhide HI) ah (Below.refl w2.heap.size w2)) ?_
        rintro r w3 ⟨rfl, hb_⟩
        have HB3 := hide ((unhide HB2).trans (hb_.mono (unhide HB2).size))
        clear hb_
        go_wp2_with fail
        refine Calls.mono (awake_any _ (unhide HU _ (unhide HB3))) ?_
        rintro r wa ⟨rfl, hba⟩
        have HBa := hide ((unhide HB3).trans (hba.mono (unhide HB3).size))
        clear hba
        go_wp2_with fail
        go_ret
        exact ⟨rfl, unhide HBa⟩
end Go.Proofs.YtidblnjohkadhaaDoor
