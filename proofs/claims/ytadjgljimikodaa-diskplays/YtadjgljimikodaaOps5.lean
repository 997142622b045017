/- What a disk's calls do, one by one: Append. -/
import Derived.Test.YtadjgljimikodaaOps4
import Derived.Deep.RegionLaw
namespace Go.Proofs.Ytadjgljimikodaa
set_option linter.unusedVariables false
set_option linter.unusedSimpArgs false
open Go.ChangeShapes Go.WideShapes Go.ChangeAt Go.RowKit

theorem used_draws (g : Nat) (S : Nat → Value) (d : DS) (w : World) (h : Dk w g S d) (n : Nat) :
    Calls Try.prog 20 #[.pointer (some ⟨g, 0, none⟩)] (w.drewN n) fun e w' => e = .returned (.int .i64 (d.used : Int)) ∧ w' = w.drewN n :=
  (used_any g S d _ (h.call (Joins.below_draws _ _ n))).mono (fun e w' h => ⟨h.1, h.2.symm⟩)

set_option maxRecDepth 100000 in
set_option maxHeartbeats 4000000 in
theorem app_some0 (g : Nat) (S : Nat → Value) (d : DS) (a : Addr) (cap : Nat) (l : List Nat) (w : World) (h : Dk w g S d) (hon : d.on = true) (hfit : d.used + l.length ≤ d.room)
    (hcap : l.length ≤ cap) (hmax : cap ≤ maxLen) (hb : ∀ (j y : Nat), l[j]? = some y → w.cell? (a.add j) = some (.int .u8 (y : Int))) (hfar : 0 < l.length → a.block ≠ g) :
    Calls Try.prog 28 #[.pointer (some ⟨g, 0, none⟩), .int .i64 0, .slice (some a) l.length cap] w fun e w' => e = .returned (.int .i64 (d.burnE l.length)) ∧ Did w w' g S (d.put 0 l) := by
  obtain ⟨i0, hi, hz0, hz1, hz2⟩ := info_parts info5
  have hm := file_any g S d 0 w h
  unfold DS.checkF at hm
  rw [hon, if_pos rfl, if_pos (by decide)] at hm
  have hu := hide (used_draws g S d w h)
  have c3 := h.cells.c3
  have hlen : l.length ≤ 16777216 := by have := h.ok.room2; omega
  have hroom := h.ok.room2
  have t1 : decide ((d.room : Int) - (d.used : Int) < (l.length : Int)) = false := by simp; omega
  have HB := hide hb
  have HFAR := hide hfar
  have HFIT := hide hfit
  clear hb hfar hfit
  have H0 := hide h
  clear h
  obtain ⟨n, hn⟩ : ∃ n, l.length = n := ⟨_, rfl⟩
  rw [hn] at hcap hlen t1 HFAR
  rw [hn]
  have HN := hide hn
  clear hn
  generalize hus : d.used = us at *
  generalize hro : d.room = ro at *
  have hus2 : us ≤ ro := by have := (unhide H0).ok.used; omega
  have HU := hide hus
  have HR := hide hro
  clear hus hro
  go_enter Try.func28, Try.ntmps28
  go_wp2_with fail
  refine hm.mono ?_
  rintro e w' ⟨rfl, rfl⟩
  go_wp2_with fail
  go_quiet ((go_at_call 20; exact Calls.quiet_of_same (unhide hu _)))
  go_wp2_with fail
  have h1 : Dk (w.drewN nq) g S d := (unhide H0).call (Joins.below_draws _ _ nq)
  refine (burn_any g S d n _ h1 hlen).mono ?_
  rintro e w2 ⟨rfl, hd, ho⟩
  clear h1
  have ho' : Only (fun k => k = g) w w2 := (Only.of_below (Joins.below_draws _ _ nq)).trans ho
  have hml : d.burnN n ≤ n := d.burnN_le n
  have hsize := ho'.size
  have hnews : ∀ j u, (bv (l.take (d.burnN n)))[j]? = some u → w2.cell? (a.add j) = some u := by
    intro j u hj
    obtain ⟨y, hy, rfl⟩ := bv_get hj
    have hy2 : l[j]? = some y := by
      rw [List.getElem?_take] at hy
      split at hy
      · exact hy
      · cases hy
    refine ho'.cell ?_ (unhide HB j y hy2)
    rw [add_block]
    refine unhide HFAR ?_
    have := (List.getElem?_eq_some_iff.1 hy2).1
    rw [unhide HN] at this
    omega
  have hown := hd.rows.own 0 (by decide)
  obtain ⟨aS, cS, hS⟩ := hd.shape 0 (by decide)
  rw [DS.burnF] at hown hS
  have hlenF := (unhide H0).ok.len 0 (by decide)
  have hfar := hd.rows.far 0 (by decide)
  have c := hd.cells.c0
  have z := hd.cells.z0
  have hlt := hd.cells.lt
  have fin : ∀ w3 v, w3.ownsRow 0 5 1 v ((d.F 0).length + d.burnN n) (bv (d.F 0) ++ bv (l.take (d.burnN n))) → w2.grownBy w3 (S 0).ownBlock → (v.ownBlock = (S 0).ownBlock ∨ v.ownBlock = some w2.heap.size) → Did w (w3.setCell ⟨g, 0, none⟩ v) g S (d.put 0 l) := by
    intro w3 v q1 q2 q3
    refine fin_app (m := d.burnN n) (by decide) ?_ ho' (by rw [unhide HU, unhide HR]; exact unhide HFIT) (by rw [unhide HN]) q1 q2 q3
    rw [unhide HN]; exact hd
  have hlt2 : (bv (l.take (d.burnN n))).length = d.burnN n := by rw [bv_len, List.length_take, unhide HN]; omega
  have HLT := hide hlt2
  have FIN := hide fin
  have HNEWS := hide hnews
  have HOWN := hide hown
  clear fin hnews hown hd ho ho' hlt2
  generalize d.burnN n = m at *
  generalize her : d.burnE n = er at *
  rw [hS] at c hfar
  have g1 : (0 : Int) ≤ (m : Int) := by omega
  have g2 : (m : Int) ≤ (cap : Int) := by omega
  go_wp2_with fail
  go_region_law
    ((refine step_append_mine _ (by rfl) _ _ _ (by rfl) 0 5 i0 (.int .u8 0) 1 1 Try.underlying32 hi hz0 hz1 hz2 rfl (by decide) (.slice aS (d.F 0).length cS) (d.F 0).length (bv (d.F 0)) (by rfl) (hS ▸ unhide HOWN)
        a m m (bv (l.take m)) (by rfl) (by rw [unhide HLT]; omega) (unhide HNEWS) (bv_one _) (by unfold maxLen; omega) (by omega) (Nat.zero_le _) ?_; intro ad' cap' w3 hown3 hgrow hat; have c' := (hgrow.cell_far (a := ⟨g, 0, none⟩) (by simp; omega) (Ne.symm hfar)); have z' := (hgrow.frozen_far (a := ⟨g, 0, none⟩) (by simp; omega) (Ne.symm hfar))))
  all_goals go_wp2
  all_goals go_ret
  refine ⟨by rw [her]; rfl, unhide FIN w3 _ hown3 (by rw [hS]; exact ⟨hgrow.os, hgrow.tape, hgrow.output, hgrow.size, hgrow.block⟩) (by rw [hS]; exact hat)⟩
set_option maxRecDepth 100000 in
set_option maxHeartbeats 4000000 in
theorem app_some1 (g : Nat) (S : Nat → Value) (d : DS) (a : Addr) (cap : Nat) (l : List Nat) (w : World) (h : Dk w g S d) (hon : d.on = true) (hfit : d.used + l.length ≤ d.room)
    (hcap : l.length ≤ cap) (hmax : cap ≤ maxLen) (hb : ∀ (j y : Nat), l[j]? = some y → w.cell? (a.add j) = some (.int .u8 (y : Int))) (hfar : 0 < l.length → a.block ≠ g) :
    Calls Try.prog 28 #[.pointer (some ⟨g, 0, none⟩), .int .i64 1, .slice (some a) l.length cap] w fun e w' => e = .returned (.int .i64 (d.burnE l.length)) ∧ Did w w' g S (d.put 1 l) := by
  obtain ⟨i0, hi, hz0, hz1, hz2⟩ := info_parts info5
  have hm := file_any g S d 1 w h
  unfold DS.checkF at hm
  rw [hon, if_pos rfl, if_pos (by decide)] at hm
  have hu := hide (used_draws g S d w h)
  have c3 := h.cells.c3
  have hlen : l.length ≤ 16777216 := by have := h.ok.room2; omega
  have hroom := h.ok.room2
  have t1 : decide ((d.room : Int) - (d.used : Int) < (l.length : Int)) = false := by simp; omega
  have HB := hide hb
  have HFAR := hide hfar
  have HFIT := hide hfit
  clear hb hfar hfit
  have H0 := hide h
  clear h
  obtain ⟨n, hn⟩ : ∃ n, l.length = n := ⟨_, rfl⟩
  rw [hn] at hcap hlen t1 HFAR
  rw [hn]
  have HN := hide hn
  clear hn
  generalize hus : d.used = us at *
  generalize hro : d.room = ro at *
  have hus2 : us ≤ ro := by have := (unhide H0).ok.used; omega
  have HU := hide hus
  have HR := hide hro
  clear hus hro
  go_enter Try.func28, Try.ntmps28
  go_wp2_with fail
  refine hm.mono ?_
  rintro e w' ⟨rfl, rfl⟩
  go_wp2_with fail
  go_quiet ((go_at_call 20; exact Calls.quiet_of_same (unhide hu _)))
  go_wp2_with fail
  have h1 : Dk (w.drewN nq) g S d := (unhide H0).call (Joins.below_draws _ _ nq)
  refine (burn_any g S d n _ h1 hlen).mono ?_
  rintro e w2 ⟨rfl, hd, ho⟩
  clear h1
  have ho' : Only (fun k => k = g) w w2 := (Only.of_below (Joins.below_draws _ _ nq)).trans ho
  have hml : d.burnN n ≤ n := d.burnN_le n
  have hsize := ho'.size
  have hnews : ∀ j u, (bv (l.take (d.burnN n)))[j]? = some u → w2.cell? (a.add j) = some u := by
    intro j u hj
    obtain ⟨y, hy, rfl⟩ := bv_get hj
    have hy2 : l[j]? = some y := by
      rw [List.getElem?_take] at hy
      split at hy
      · exact hy
      · cases hy
    refine ho'.cell ?_ (unhide HB j y hy2)
    rw [add_block]
    refine unhide HFAR ?_
    have := (List.getElem?_eq_some_iff.1 hy2).1
    rw [unhide HN] at this
    omega
  have hown := hd.rows.own 1 (by decide)
  obtain ⟨aS, cS, hS⟩ := hd.shape 1 (by decide)
  rw [DS.burnF] at hown hS
  have hlenF := (unhide H0).ok.len 1 (by decide)
  have hfar := hd.rows.far 1 (by decide)
  have c := hd.cells.c1
  have z := hd.cells.z1
  have hlt := hd.cells.lt
  have fin : ∀ w3 v, w3.ownsRow 0 5 1 v ((d.F 1).length + d.burnN n) (bv (d.F 1) ++ bv (l.take (d.burnN n))) → w2.grownBy w3 (S 1).ownBlock → (v.ownBlock = (S 1).ownBlock ∨ v.ownBlock = some w2.heap.size) → Did w (w3.setCell ⟨g, 1, none⟩ v) g S (d.put 1 l) := by
    intro w3 v q1 q2 q3
    refine fin_app (m := d.burnN n) (by decide) ?_ ho' (by rw [unhide HU, unhide HR]; exact unhide HFIT) (by rw [unhide HN]) q1 q2 q3
    rw [unhide HN]; exact hd
  have hlt2 : (bv (l.take (d.burnN n))).length = d.burnN n := by rw [bv_len, List.length_take, unhide HN]; omega
  have HLT := hide hlt2
  have FIN := hide fin
  have HNEWS := hide hnews
  have HOWN := hide hown
  clear fin hnews hown hd ho ho' hlt2
  generalize d.burnN n = m at *
  generalize her : d.burnE n = er at *
  rw [hS] at c hfar
  have g1 : (0 : Int) ≤ (m : Int) := by omega
  have g2 : (m : Int) ≤ (cap : Int) := by omega
  go_wp2_with fail
  go_region_law
    ((refine step_append_mine _ (by rfl) _ _ _ (by rfl) 0 5 i0 (.int .u8 0) 1 1 Try.underlying32 hi hz0 hz1 hz2 rfl (by decide) (.slice aS (d.F 1).length cS) (d.F 1).length (bv (d.F 1)) (by rfl) (hS ▸ unhide HOWN)
        a m m (bv (l.take m)) (by rfl) (by rw [unhide HLT]; omega) (unhide HNEWS) (bv_one _) (by unfold maxLen; omega) (by omega) (Nat.zero_le _) ?_; intro ad' cap' w3 hown3 hgrow hat; have c' := (hgrow.cell_far (a := ⟨g, 1, none⟩) (by simp; omega) (Ne.symm hfar)); have z' := (hgrow.frozen_far (a := ⟨g, 1, none⟩) (by simp; omega) (Ne.symm hfar))))
  all_goals go_wp2
  all_goals go_ret
  refine ⟨by rw [her]; rfl, unhide FIN w3 _ hown3 (by rw [hS]; exact ⟨hgrow.os, hgrow.tape, hgrow.output, hgrow.size, hgrow.block⟩) (by rw [hS]; exact hat)⟩
set_option maxRecDepth 100000 in
set_option maxHeartbeats 4000000 in
theorem app_some2 (g : Nat) (S : Nat → Value) (d : DS) (a : Addr) (cap : Nat) (l : List Nat) (w : World) (h : Dk w g S d) (hon : d.on = true) (hfit : d.used + l.length ≤ d.room)
    (hcap : l.length ≤ cap) (hmax : cap ≤ maxLen) (hb : ∀ (j y : Nat), l[j]? = some y → w.cell? (a.add j) = some (.int .u8 (y : Int))) (hfar : 0 < l.length → a.block ≠ g) :
    Calls Try.prog 28 #[.pointer (some ⟨g, 0, none⟩), .int .i64 2, .slice (some a) l.length cap] w fun e w' => e = .returned (.int .i64 (d.burnE l.length)) ∧ Did w w' g S (d.put 2 l) := by
  obtain ⟨i0, hi, hz0, hz1, hz2⟩ := info_parts info5
  have hm := file_any g S d 2 w h
  unfold DS.checkF at hm
  rw [hon, if_pos rfl, if_pos (by decide)] at hm
  have hu := hide (used_draws g S d w h)
  have c3 := h.cells.c3
  have hlen : l.length ≤ 16777216 := by have := h.ok.room2; omega
  have hroom := h.ok.room2
  have t1 : decide ((d.room : Int) - (d.used : Int) < (l.length : Int)) = false := by simp; omega
  have HB := hide hb
  have HFAR := hide hfar
  have HFIT := hide hfit
  clear hb hfar hfit
  have H0 := hide h
  clear h
  obtain ⟨n, hn⟩ : ∃ n, l.length = n := ⟨_, rfl⟩
  rw [hn] at hcap hlen t1 HFAR
  rw [hn]
  have HN := hide hn
  clear hn
  generalize hus : d.used = us at *
  generalize hro : d.room = ro at *
  have hus2 : us ≤ ro := by have := (unhide H0).ok.used; omega
  have HU := hide hus
  have HR := hide hro
  clear hus hro
  go_enter Try.func28, Try.ntmps28
  go_wp2_with fail
  refine hm.mono ?_
  rintro e w' ⟨rfl, rfl⟩
  go_wp2_with fail
  go_quiet ((go_at_call 20; exact Calls.quiet_of_same (unhide hu _)))
  go_wp2_with fail
  have h1 : Dk (w.drewN nq) g S d := (unhide H0).call (Joins.below_draws _ _ nq)
  refine (burn_any g S d n _ h1 hlen).mono ?_
  rintro e w2 ⟨rfl, hd, ho⟩
  clear h1
  have ho' : Only (fun k => k = g) w w2 := (Only.of_below (Joins.below_draws _ _ nq)).trans ho
  have hml : d.burnN n ≤ n := d.burnN_le n
  have hsize := ho'.size
  have hnews : ∀ j u, (bv (l.take (d.burnN n)))[j]? = some u → w2.cell? (a.add j) = some u := by
    intro j u hj
    obtain ⟨y, hy, rfl⟩ := bv_get hj
    have hy2 : l[j]? = some y := by
      rw [List.getElem?_take] at hy
      split at hy
      · exact hy
      · cases hy
    refine ho'.cell ?_ (unhide HB j y hy2)
    rw [add_block]
    refine unhide HFAR ?_
    have := (List.getElem?_eq_some_iff.1 hy2).1
    rw [unhide HN] at this
    omega
  have hown := hd.rows.own 2 (by decide)
  obtain ⟨aS, cS, hS⟩ := hd.shape 2 (by decide)
  rw [DS.burnF] at hown hS
  have hlenF := (unhide H0).ok.len 2 (by decide)
  have hfar := hd.rows.far 2 (by decide)
  have c := hd.cells.c2
  have z := hd.cells.z2
  have hlt := hd.cells.lt
  have fin : ∀ w3 v, w3.ownsRow 0 5 1 v ((d.F 2).length + d.burnN n) (bv (d.F 2) ++ bv (l.take (d.burnN n))) → w2.grownBy w3 (S 2).ownBlock → (v.ownBlock = (S 2).ownBlock ∨ v.ownBlock = some w2.heap.size) → Did w (w3.setCell ⟨g, 2, none⟩ v) g S (d.put 2 l) := by
    intro w3 v q1 q2 q3
    refine fin_app (m := d.burnN n) (by decide) ?_ ho' (by rw [unhide HU, unhide HR]; exact unhide HFIT) (by rw [unhide HN]) q1 q2 q3
    rw [unhide HN]; exact hd
  have hlt2 : (bv (l.take (d.burnN n))).length = d.burnN n := by rw [bv_len, List.length_take, unhide HN]; omega
  have HLT := hide hlt2
  have FIN := hide fin
  have HNEWS := hide hnews
  have HOWN := hide hown
  clear fin hnews hown hd ho ho' hlt2
  generalize d.burnN n = m at *
  generalize her : d.burnE n = er at *
  rw [hS] at c hfar
  have g1 : (0 : Int) ≤ (m : Int) := by omega
  have g2 : (m : Int) ≤ (cap : Int) := by omega
  go_wp2_with fail
  go_region_law
    ((refine step_append_mine _ (by rfl) _ _ _ (by rfl) 0 5 i0 (.int .u8 0) 1 1 Try.underlying32 hi hz0 hz1 hz2 rfl (by decide) (.slice aS (d.F 2).length cS) (d.F 2).length (bv (d.F 2)) (by rfl) (hS ▸ unhide HOWN)
        a m m (bv (l.take m)) (by rfl) (by rw [unhide HLT]; omega) (unhide HNEWS) (bv_one _) (by unfold maxLen; omega) (by omega) (Nat.zero_le _) ?_; intro ad' cap' w3 hown3 hgrow hat; have c' := (hgrow.cell_far (a := ⟨g, 2, none⟩) (by simp; omega) (Ne.symm hfar)); have z' := (hgrow.frozen_far (a := ⟨g, 2, none⟩) (by simp; omega) (Ne.symm hfar))))
  all_goals go_wp2
  all_goals go_ret
  refine ⟨by rw [her]; rfl, unhide FIN w3 _ hown3 (by rw [hS]; exact ⟨hgrow.os, hgrow.tape, hgrow.output, hgrow.size, hgrow.block⟩) (by rw [hS]; exact hat)⟩
end Go.Proofs.Ytadjgljimikodaa
