/- How much is put and dropped: the walk. -/
import Derived.Test.YtidblnjohkadhaaDoorWgt
namespace Go.Proofs.YtidblnjohkadhaaDoor
set_option linter.unusedVariables false
set_option linter.unusedSimpArgs false
open Go.ChangeShapes Go.WideShapes Go.ChangeAt Go.RowKit Go.Joins Go.Deep

theorem weight_at {w W : World} {a : Option Addr} {l : List Pt} {c n : Nat} (hU : UT W) (ha : Edit W a l c) (hn : l.length = n) (hl : l.length ≤ 4000) (hb : Below w.heap.size w W) :
    Calls Tryd.prog 32 #[.slice a n c] W fun r w' => r = .returned (wVal l) ∧ Below w.heap.size w w' := by
  subst hn
  refine Calls.mono (weight_any a l c W hU ha.pts hl ha.txt2) ?_
  rintro r w' ⟨rfl, h⟩
  exact ⟨rfl, hb.trans (h.mono hb.size)⟩
theorem rweight_at {w W : World} {a : Option Addr} {l : List Pt} {c n : Nat} (ha : Edit W a l c) (hn : l.length = n) (hl : l.length ≤ 4000) (hb : Below w.heap.size w W) :
    Calls Tryd.prog 33 #[.slice a n c] W fun r w' => r = .returned (wVal l) ∧ Below w.heap.size w w' := by
  subst hn
  refine Calls.mono (rweight_any a l c W ha.pts hl ha.txt2) ?_
  rintro r w' ⟨rfl, h⟩
  exact ⟨rfl, hb.trans (h.mono hb.size)⟩
theorem changes_at {w W : World} {a : Option Addr} {l : List Pt} {c n : Nat} (ha : Edit W a l c) (hn : l.length = n) (hb : Below w.heap.size w W) :
    Calls Tryd.prog 34 #[.slice a n c] W fun r w' => r = .returned (.bool (changesB l)) ∧ Below w.heap.size w w' := by
  subst hn
  refine Calls.mono (changes_any a l c W ha.pts (Nat.le_trans ha.cap ha.max)) ?_
  rintro r w' ⟨rfl, h⟩
  exact ⟨rfl, hb.trans (h.mono hb.size)⟩
theorem rchanges_at {w W : World} {a : Option Addr} {l : List Pt} {c n : Nat} (ha : Edit W a l c) (hn : l.length = n) (hb : Below w.heap.size w W) :
    Calls Tryd.prog 35 #[.slice a n c] W fun r w' => r = .returned (.bool (changesB l)) ∧ Below w.heap.size w w' := by
  subst hn
  refine Calls.mono (rchanges_any a l c W ha.pts (Nat.le_trans ha.cap ha.max)) ?_
  rintro r w' ⟨rfl, h⟩
  exact ⟨rfl, hb.trans (h.mono hb.size)⟩
theorem wVal_two (l : List Pt) : ∃ x y : Int, wVal l = .tuple #[.int .i64 x, .int .i64 y] := by
  unfold wVal
  split
  · exact ⟨_, _, rfl⟩
  · exact ⟨_, _, rfl⟩
set_option maxRecDepth 100000 in
set_option maxHeartbeats 4000000 in
theorem weighs_law (a : Option Addr) (la : List Pt) (ca : Nat) (w : World) (hT : UT w) (ea : Edit w a la ca) : Calls Tryd.prog 5 #[.slice a la.length ca] w fun r w' => r = .returned (.bool true) ∧ Below w.heap.size w w' := by
  have HU : Hid (∀ W, Below w.heap.size w W → UT W) := hide (fun W h => hT.call h)
  have HB0 := hide (Below.refl w.heap.size w)
  have Ea : Hid (∀ W, Below w.heap.size w W → Edit W a la ca) := hide (fun W h => ea.call h)
  have Ta := hide (⟨ea.txt, ea.cap, ea.max, ea.num⟩ : _ ∧ _ ∧ _ ∧ _)
  have hbL : Below w.heap.size w (w.alloc (.cells #[.slice a la.length ca] 22)) := (Below.refl _ _).alloc (Nat.le_refl _) _
  have HLT := hide (light_any w.heap.size [⟨a, la, ca⟩] (w.alloc (.cells #[.slice a la.length ca] 22)) (RowAt.new w 22 _) (by
    intro e he
    simp only [List.mem_cons, List.not_mem_nil, or_false] at he
    rcases he with rfl
    · exact (ea.call hbL).pts
    ) (by
    intro e he
    simp only [List.mem_cons, List.not_mem_nil, or_false] at he
    rcases he with rfl
    · exact Nat.le_trans ea.cap ea.max
    ) (by simp))
  have HBL := hide hbL
  obtain ⟨na, hna⟩ : ∃ z, la.length = z := ⟨_, rfl⟩
  simp only [hna] at HLT HBL ⊢
  have Na := hide hna
  clear hT hbL ea hna
  go_enter Tryd.func5, Tryd.ntmps5
  go_wp2_with fail
  refine Calls.mono (unhide HLT) ?_
  rintro r w1 ⟨⟨lb_, rfl, hlb⟩, hb1⟩
  have HB1 := hide ((unhide HBL).trans (hb1.mono (unhide HBL).size))
  have HLB := hide hlb
  clear hb1 HLT hlb HBL
  cases lb_ with
  | false =>
    go_wp2_with fail
    refine Calls.mono (awake_any _ (unhide HU _ (unhide HB1))) ?_
    rintro r wa ⟨rfl, hba⟩
    have HBa := hide ((unhide HB1).trans (hba.mono (unhide HB1).size))
    clear hba
    go_wp2_with fail
    go_ret
    exact ⟨rfl, unhide HBa⟩
  | true =>
    have qa : Hid (na ≤ 200) := hide (by have h := (unhide HLB rfl).1 ⟨a, la, ca⟩ (by simp); rw [← unhide Na]; exact h)
    have HWS := hide (unhide HLB rfl).2
    clear HLB
    go_wp2_with fail
    refine Calls.mono (weight_at (w := w1) (unhide HU _ (unhide HB1)) (unhide Ea _ (unhide HB1)) (unhide Na) (by have h1 := unhide qa; have h2 := unhide Na; omega) (Below.refl w1.heap.size w1)) ?_
    rintro r w2 ⟨rfl, hb_⟩
    have HB2 := hide ((unhide HB1).trans (hb_.mono (unhide HB1).size))
    clear hb_
    obtain ⟨wx, wy, hz⟩ := wVal_two la
    have HZ := hide hz
    rw [hz]
    clear hz
    go_wp2_with fail
    refine Calls.mono (rweight_at (w := w2) (unhide Ea _ (unhide HB2)) (unhide Na) (by have h1 := unhide qa; have h2 := unhide Na; omega) (Below.refl w2.heap.size w2)) ?_
    rintro r w3 ⟨rfl, hb_⟩
    have HB3 := hide ((unhide HB2).trans (hb_.mono (unhide HB2).size))
    clear hb_
    rw [unhide HZ]
    go_wp2_with fail
    refine Calls.mono (changes_at (w := w3) (unhide Ea _ (unhide HB3)) (unhide Na) (Below.refl w3.heap.size w3)) ?_
    rintro r w4 ⟨rfl, hb_⟩
    have HB4 := hide ((unhide HB3).trans (hb_.mono (unhide HB3).size))
    clear hb_
    obtain ⟨ce, hce⟩ : ∃ z, changesB la = z := ⟨_, rfl⟩
    have HCE := hide hce
    rw [hce]
    clear hce
    go_wp2_with fail
    refine Calls.mono (rchanges_at (w := w4) (unhide Ea _ (unhide HB4)) (unhide Na) (Below.refl w4.heap.size w4)) ?_
    rintro r w5 ⟨rfl, hb_⟩
    have HB5 := hide ((unhide HB4).trans (hb_.mono (unhide HB4).size))
    clear hb_
    rw [unhide HCE]
    go_wp2_with fail
    refine Calls.mono (awake_any _ (unhide HU _ (unhide HB5))) ?_
    rintro r wa ⟨rfl, hba⟩
    have HBa := hide ((unhide HB5).trans (hba.mono (unhide HB5).size))
    clear hba
    go_wp2_with fail
    go_ret
    exact ⟨rfl, unhide HBa⟩
end Go.Proofs.YtidblnjohkadhaaDoor
