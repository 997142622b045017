/- Whether parts are an edit: the walk. -/
import Derived.Test.YtidblnjohkadhaaDoorSam
import Derived.Test.YtidblnjohkadhaaDoorRsz
namespace Go.Proofs.YtidblnjohkadhaaDoor
set_option linter.unusedVariables false
set_option linter.unusedSimpArgs false
open Go.ChangeShapes Go.WideShapes Go.ChangeAt Go.RowKit Go.Joins Go.Deep

set_option maxRecDepth 100000 in
set_option maxHeartbeats 4000000 in
theorem rcheck_any (a : Option Addr) (l : List Pt) (c : Nat) (n : Int) (w : World) (hp : PtsAt w a l) (hc : l.length ≤ maxLen) (hs : ∀ p ∈ l, p.text.size ≤ 281474976710656) :
    Calls Tryd.prog 26 #[.slice a l.length c, .int .i64 n] w fun r w' => r = .returned (.int .i64 (checkE l n)) ∧ Below w.heap.size w w' := by
  have HS := hide (rsize_any a l c w hp hc hs)
  obtain ⟨m, hm⟩ : ∃ m, l.length = m := ⟨_, rfl⟩
  rw [hm] at HS ⊢
  clear hp hc hs hm
  unfold checkE
  unfold szVal at HS
  cases hz : sizeL l with
  | none =>
    rw [hz] at HS
    go_enter Tryd.func26, Tryd.ntmps26
    go_wp2_with fail
    refine Calls.mono (unhide HS) ?_
    rintro r w2 ⟨rfl, hb⟩
    have HB := hide hb
    clear hb
    go_wp2_with fail
    go_ret
    exact ⟨rfl, unhide HB⟩
  | some t =>
    obtain ⟨f, t, k⟩ := t
    rw [hz] at HS
    simp only at HS ⊢
    by_cases e : f = n
    · subst e
      rw [if_pos rfl]
      go_enter Tryd.func26, Tryd.ntmps26
      go_wp2_with fail
      refine Calls.mono (unhide HS) ?_
      rintro r w2 ⟨rfl, hb⟩
      have HB := hide hb
      clear hb
      go_wp2_with fail
      go_ret
      exact ⟨rfl, unhide HB⟩
    · rw [if_neg e]
      have e1 : (f == n) = false := by simp [e]
      have e2 : (f != n) = true := by simp [e]
      go_enter Tryd.func26, Tryd.ntmps26
      go_wp2_with fail
      refine Calls.mono (unhide HS) ?_
      rintro r w2 ⟨rfl, hb⟩
      have HB := hide hb
      clear hb
      go_wp2_with fail
      go_ret
      exact ⟨rfl, unhide HB⟩
theorem rsize_at {w W : World} {a : Option Addr} {l : List Pt} {c n : Nat} (ha : Edit W a l c) (hn : l.length = n) (hb : Below w.heap.size w W) :
    Calls Tryd.prog 24 #[.slice a n c] W fun r w' => r = .returned (szVal l) ∧ Below w.heap.size w w' := by
  subst hn
  refine Calls.mono (rsize_any a l c W ha.pts (Nat.le_trans ha.cap ha.max) ha.txt2) ?_
  rintro r w' ⟨rfl, h⟩
  exact ⟨rfl, hb.trans (h.mono hb.size)⟩
theorem rcheck_at {w W : World} {a : Option Addr} {l : List Pt} {c n : Nat} {k : Int} (ha : Edit W a l c) (hn : l.length = n) (hb : Below w.heap.size w W) :
    Calls Tryd.prog 26 #[.slice a n c, .int .i64 k] W fun r w' => r = .returned (.int .i64 (checkE l k)) ∧ Below w.heap.size w w' := by
  subst hn
  refine Calls.mono (rcheck_any a l c k W ha.pts (Nat.le_trans ha.cap ha.max) ha.txt2) ?_
  rintro r w' ⟨rfl, h⟩
  exact ⟨rfl, hb.trans (h.mono hb.size)⟩
set_option maxRecDepth 100000 in
set_option maxHeartbeats 4000000 in
theorem checks_law (a : Option Addr) (la : List Pt) (ca : Nat) (i : Int) (w : World) (hT : UT w) (ea : Edit w a la ca) (i0 : -9223372036854775808 ≤ i) (i1 : i ≤ 9223372036854775807) : Calls Tryd.prog 3 #[.slice a la.length ca, .int .i64 i] w fun r w' => r = .returned (.bool true) ∧ Below w.heap.size w w' := by
  have HU : Hid (∀ W, Below w.heap.size w W → UT W) := hide (fun W h => hT.call h)
  have HB0 := hide (Below.refl w.heap.size w)
  have Ea : Hid (∀ W, Below w.heap.size w W → Edit W a la ca) := hide (fun W h => ea.call h)
  have Ta := hide (⟨ea.txt, ea.cap, ea.max, ea.num⟩ : _ ∧ _ ∧ _ ∧ _)
  have hbL : Below w.heap.size w (w.alloc (.cells #[.slice a la.length ca] 22)) := (Below.refl _ _).alloc (Nat.le_refl _) _
  have HLT := hide (light_any w.heap.size [⟨a, la, ca⟩] (w.alloc (.cells #[.slice a la.length ca] 22)) (RowAt.new w 22 _) (by
    intro e he
    simp only [List.mem_cons, List.not_mem_nil, or_false] at he
    rcases he with rfl
    · exact (ea.call hbL).pts
    ) (by
    intro e he
    simp only [List.mem_cons, List.not_mem_nil, or_false] at he
    rcases he with rfl
    · exact Nat.le_trans ea.cap ea.max
    ) (by simp))
  have HBL := hide hbL
  obtain ⟨na, hna⟩ : ∃ z, la.length = z := ⟨_, rfl⟩
  simp only [hna] at HLT HBL ⊢
  have Na := hide hna
  clear hT hbL ea hna
  go_enter Tryd.func3, Tryd.ntmps3
  go_wp2_with fail
  refine Calls.mono (unhide HLT) ?_
  rintro r w1 ⟨⟨lb_, rfl, hlb⟩, hb1⟩
  have HB1 := hide ((unhide HBL).trans (hb1.mono (unhide HBL).size))
  have HLB := hide hlb
  clear hb1 HLT hlb HBL
  cases lb_ with
  | false =>
    go_wp2_with fail
    refine Calls.mono (awake_any _ (unhide HU _ (unhide HB1))) ?_
    rintro r wa ⟨rfl, hba⟩
    have HBa := hide ((unhide HB1).trans (hba.mono (unhide HB1).size))
    clear hba
    go_wp2_with fail
    go_ret
    exact ⟨rfl, unhide HBa⟩
  | true =>
    have qa : Hid (na ≤ 200) := hide (by have h := (unhide HLB rfl).1 ⟨a, la, ca⟩ (by simp); rw [← unhide Na]; exact h)
    have HWS := hide (unhide HLB rfl).2
    clear HLB
    go_wp2_with fail
    refine Calls.mono (size_at (w := w1) (unhide HU _ (unhide HB1)) (unhide Ea _ (unhide HB1)) (unhide Na) (Below.refl w1.heap.size w1)) ?_
    rintro r w2 ⟨rfl, hb_⟩
    have HB2 := hide ((unhide HB1).trans (hb_.mono (unhide HB1).size))
    clear hb_
    obtain ⟨zf, zt, zb, hz⟩ : ∃ zf zt zb : Int, szVal la = .tuple #[.int .i64 zf, .int .i64 zt, .int .i64 zb] := by
      unfold szVal
      split
      · exact ⟨_, _, _, rfl⟩
      · exact ⟨_, _, _, rfl⟩
    have HZ := hide hz
    rw [hz]
    clear hz
    go_wp2_with fail
    refine Calls.mono (rsize_at (w := w2) (unhide Ea _ (unhide HB2)) (unhide Na) (Below.refl w2.heap.size w2)) ?_
    rintro r w3 ⟨rfl, hb_⟩
    have HB3 := hide ((unhide HB2).trans (hb_.mono (unhide HB2).size))
    clear hb_
    rw [unhide HZ]
    go_wp2_with fail
    refine Calls.mono (check_at (w := w3) (unhide HU _ (unhide HB3)) (unhide Ea _ (unhide HB3)) (unhide Na) (Below.refl w3.heap.size w3)) ?_
    rintro r w4 ⟨rfl, hb_⟩
    have HB4 := hide ((unhide HB3).trans (hb_.mono (unhide HB3).size))
    clear hb_
    obtain ⟨ce, hce⟩ : ∃ z, checkE la i = z := ⟨_, rfl⟩
    have HCE := hide hce
    rw [hce]
    clear hce
    go_wp2_with fail
    refine Calls.mono (rcheck_at (w := w4) (unhide Ea _ (unhide HB4)) (unhide Na) (Below.refl w4.heap.size w4)) ?_
    rintro r w5 ⟨rfl, hb_⟩
    have HB5 := hide ((unhide HB4).trans (hb_.mono (unhide HB4).size))
    clear hb_
    rw [unhide HCE]
    go_wp2_with fail
    refine Calls.mono (awake_any _ (unhide HU _ (unhide HB5))) ?_
    rintro r wa ⟨rfl, hba⟩
    have HBa := hide ((unhide HB5).trans (hba.mono (unhide HB5).size))
    clear hba
    go_wp2_with fail
    go_ret
    exact ⟨rfl, unhide HBa⟩
end Go.Proofs.YtidblnjohkadhaaDoor
