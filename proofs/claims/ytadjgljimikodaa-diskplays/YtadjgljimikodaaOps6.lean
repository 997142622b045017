/- What a disk's calls do, one by one: Append, the rest. -/
import Derived.Test.YtadjgljimikodaaOps5
namespace Go.Proofs.Ytadjgljimikodaa
set_option linter.unusedVariables false
set_option linter.unusedSimpArgs false
open Go.ChangeShapes Go.WideShapes Go.ChangeAt Go.RowKit

set_option maxRecDepth 100000 in
set_option maxHeartbeats 4000000 in
theorem app_none0 (g : Nat) (S : Nat → Value) (d : DS) (w : World) (h : Dk w g S d) (hon : d.on = true) :
    Calls Try.prog 28 #[.pointer (some ⟨g, 0, none⟩), .int .i64 0, .slice none 0 0] w fun e w' => e = .returned (.int .i64 (d.burnE 0)) ∧ Did w w' g S (d.put 0 []) := by
  have hm := file_any g S d 0 w h
  unfold DS.checkF at hm
  rw [hon, if_pos rfl, if_pos (by decide)] at hm
  have hu := hide (used_draws g S d w h)
  have c3 := h.cells.c3
  have hroom := h.ok.room2
  have hus2 := h.ok.used
  have t1 : decide ((d.room : Int) - (d.used : Int) < 0) = false := by simp; omega
  have H0 := hide h
  clear h
  generalize hus : d.used = us at *
  generalize hro : d.room = ro at *
  have HU := hide hus
  have HR := hide hro
  clear hus hro
  go_enter Try.func28, Try.ntmps28
  go_wp2_with fail
  refine hm.mono ?_
  rintro e w' ⟨rfl, rfl⟩
  go_wp2_with fail
  go_quiet ((go_at_call 20; exact Calls.quiet_of_same (unhide hu _)))
  go_wp2_with fail
  have h1 : Dk (w.drewN nq) g S d := (unhide H0).call (Joins.below_draws _ _ nq)
  refine (burn_any g S d 0 _ h1 (by decide)).mono ?_
  rintro e w2 ⟨rfl, hd, ho⟩
  clear h1
  have hb0 : d.burnN 0 = 0 := by have := d.burnN_le 0; omega
  rw [hb0]
  have ho' : Only (fun k => k = g) w w2 := (Only.of_below (Joins.below_draws _ _ nq)).trans ho
  have hown := hd.rows.own 0 (by decide)
  obtain ⟨aS, cS, hS⟩ := hd.shape 0 (by decide)
  rw [DS.burnF] at hown hS
  have hcS : (d.F 0).length ≤ cS := by
    rcases hown.2 with ⟨e1, e2⟩ | ⟨_, _, _, e1, _, _, e2, _⟩
    · omega
    · rw [hS] at e1; injection e1 with _ _ e3; omega
  have c := hd.cells.c0
  have z := hd.cells.z0
  have fin : Did w ((w2.drew).setCell ⟨g, 0, none⟩ (S 0)) g S (d.put 0 []) := by
    have hd' : Dk w2.drew g S (d.burnD 0) := hd.call (Below.refl _ _).drew
    have ho2 : Only (fun k => k = g) w w2.drew := ho'.trans (Only.of_below (Below.refl _ _).drew)
    exact fin_app (m := 0) (l := []) (by decide) hd' ho2 (by rw [unhide HU, unhide HR]; simpa using hus2) hb0 (by simpa [bv] using hd'.rows.own 0 (by decide) |> (fun q => (by rw [DS.burnF] at q; exact q : w2.drew.ownsRow 0 5 1 (S 0) (d.F 0).length (bv (d.F 0))))) ⟨rfl, rfl, rfl, Nat.le_refl _, fun _ _ _ => rfl⟩ (.inl rfl)
  rw [hS] at c fin
  have FIN := hide fin
  clear fin hown hd ho ho' hS
  generalize (d.F 0).length = nF at *
  generalize her : d.burnE 0 = er at *
  rcases aS with _ | aS
  · go_wp2_with fail
    go_region
    go_wp2
    go_ret
    exact ⟨by rw [her]; rfl, unhide FIN⟩
  · go_wp2_with fail
    go_region
    go_wp2
    go_ret
    exact ⟨by rw [her]; rfl, unhide FIN⟩
set_option maxRecDepth 100000 in
set_option maxHeartbeats 4000000 in
theorem app_none1 (g : Nat) (S : Nat → Value) (d : DS) (w : World) (h : Dk w g S d) (hon : d.on = true) :
    Calls Try.prog 28 #[.pointer (some ⟨g, 0, none⟩), .int .i64 1, .slice none 0 0] w fun e w' => e = .returned (.int .i64 (d.burnE 0)) ∧ Did w w' g S (d.put 1 []) := by
  have hm := file_any g S d 1 w h
  unfold DS.checkF at hm
  rw [hon, if_pos rfl, if_pos (by decide)] at hm
  have hu := hide (used_draws g S d w h)
  have c3 := h.cells.c3
  have hroom := h.ok.room2
  have hus2 := h.ok.used
  have t1 : decide ((d.room : Int) - (d.used : Int) < 0) = false := by simp; omega
  have H0 := hide h
  clear h
  generalize hus : d.used = us at *
  generalize hro : d.room = ro at *
  have HU := hide hus
  have HR := hide hro
  clear hus hro
  go_enter Try.func28, Try.ntmps28
  go_wp2_with fail
  refine hm.mono ?_
  rintro e w' ⟨rfl, rfl⟩
  go_wp2_with fail
  go_quiet ((go_at_call 20; exact Calls.quiet_of_same (unhide hu _)))
  go_wp2_with fail
  have h1 : Dk (w.drewN nq) g S d := (unhide H0).call (Joins.below_draws _ _ nq)
  refine (burn_any g S d 0 _ h1 (by decide)).mono ?_
  rintro e w2 ⟨rfl, hd, ho⟩
  clear h1
  have hb0 : d.burnN 0 = 0 := by have := d.burnN_le 0; omega
  rw [hb0]
  have ho' : Only (fun k => k = g) w w2 := (Only.of_below (Joins.below_draws _ _ nq)).trans ho
  have hown := hd.rows.own 1 (by decide)
  obtain ⟨aS, cS, hS⟩ := hd.shape 1 (by decide)
  rw [DS.burnF] at hown hS
  have hcS : (d.F 1).length ≤ cS := by
    rcases hown.2 with ⟨e1, e2⟩ | ⟨_, _, _, e1, _, _, e2, _⟩
    · omega
    · rw [hS] at e1; injection e1 with _ _ e3; omega
  have c := hd.cells.c1
  have z := hd.cells.z1
  have fin : Did w ((w2.drew).setCell ⟨g, 1, none⟩ (S 1)) g S (d.put 1 []) := by
    have hd' : Dk w2.drew g S (d.burnD 0) := hd.call (Below.refl _ _).drew
    have ho2 : Only (fun k => k = g) w w2.drew := ho'.trans (Only.of_below (Below.refl _ _).drew)
    exact fin_app (m := 0) (l := []) (by decide) hd' ho2 (by rw [unhide HU, unhide HR]; simpa using hus2) hb0 (by simpa [bv] using hd'.rows.own 1 (by decide) |> (fun q => (by rw [DS.burnF] at q; exact q : w2.drew.ownsRow 0 5 1 (S 1) (d.F 1).length (bv (d.F 1))))) ⟨rfl, rfl, rfl, Nat.le_refl _, fun _ _ _ => rfl⟩ (.inl rfl)
  rw [hS] at c fin
  have FIN := hide fin
  clear fin hown hd ho ho' hS
  generalize (d.F 1).length = nF at *
  generalize her : d.burnE 0 = er at *
  rcases aS with _ | aS
  · go_wp2_with fail
    go_region
    go_wp2
    go_ret
    exact ⟨by rw [her]; rfl, unhide FIN⟩
  · go_wp2_with fail
    go_region
    go_wp2
    go_ret
    exact ⟨by rw [her]; rfl, unhide FIN⟩
set_option maxRecDepth 100000 in
set_option maxHeartbeats 4000000 in
theorem app_none2 (g : Nat) (S : Nat → Value) (d : DS) (w : World) (h : Dk w g S d) (hon : d.on = true) :
    Calls Try.prog 28 #[.pointer (some ⟨g, 0, none⟩), .int .i64 2, .slice none 0 0] w fun e w' => e = .returned (.int .i64 (d.burnE 0)) ∧ Did w w' g S (d.put 2 []) := by
  have hm := file_any g S d 2 w h
  unfold DS.checkF at hm
  rw [hon, if_pos rfl, if_pos (by decide)] at hm
  have hu := hide (used_draws g S d w h)
  have c3 := h.cells.c3
  have hroom := h.ok.room2
  have hus2 := h.ok.used
  have t1 : decide ((d.room : Int) - (d.used : Int) < 0) = false := by simp; omega
  have H0 := hide h
  clear h
  generalize hus : d.used = us at *
  generalize hro : d.room = ro at *
  have HU := hide hus
  have HR := hide hro
  clear hus hro
  go_enter Try.func28, Try.ntmps28
  go_wp2_with fail
  refine hm.mono ?_
  rintro e w' ⟨rfl, rfl⟩
  go_wp2_with fail
  go_quiet ((go_at_call 20; exact Calls.quiet_of_same (unhide hu _)))
  go_wp2_with fail
  have h1 : Dk (w.drewN nq) g S d := (unhide H0).call (Joins.below_draws _ _ nq)
  refine (burn_any g S d 0 _ h1 (by decide)).mono ?_
  rintro e w2 ⟨rfl, hd, ho⟩
  clear h1
  have hb0 : d.burnN 0 = 0 := by have := d.burnN_le 0; omega
  rw [hb0]
  have ho' : Only (fun k => k = g) w w2 := (Only.of_below (Joins.below_draws _ _ nq)).trans ho
  have hown := hd.rows.own 2 (by decide)
  obtain ⟨aS, cS, hS⟩ := hd.shape 2 (by decide)
  rw [DS.burnF] at hown hS
  have hcS : (d.F 2).length ≤ cS := by
    rcases hown.2 with ⟨e1, e2⟩ | ⟨_, _, _, e1, _, _, e2, _⟩
    · omega
    · rw [hS] at e1; injection e1 with _ _ e3; omega
  have c := hd.cells.c2
  have z := hd.cells.z2
  have fin : Did w ((w2.drew).setCell ⟨g, 2, none⟩ (S 2)) g S (d.put 2 []) := by
    have hd' : Dk w2.drew g S (d.burnD 0) := hd.call (Below.refl _ _).drew
    have ho2 : Only (fun k => k = g) w w2.drew := ho'.trans (Only.of_below (Below.refl _ _).drew)
    exact fin_app (m := 0) (l := []) (by decide) hd' ho2 (by rw [unhide HU, unhide HR]; simpa using hus2) hb0 (by simpa [bv] using hd'.rows.own 2 (by decide) |> (fun q => (by rw [DS.burnF] at q; exact q : w2.drew.ownsRow 0 5 1 (S 2) (d.F 2).length (bv (d.F 2))))) ⟨rfl, rfl, rfl, Nat.le_refl _, fun _ _ _ => rfl⟩ (.inl rfl)
  rw [hS] at c fin
  have FIN := hide fin
  clear fin hown hd ho ho' hS
  generalize (d.F 2).length = nF at *
  generalize her : d.burnE 0 = er at *
  rcases aS with _ | aS
  · go_wp2_with fail
    go_region
    go_wp2
    go_ret
    exact ⟨by rw [her]; rfl, unhide FIN⟩
  · go_wp2_with fail
    go_region
    go_wp2
    go_ret
    exact ⟨by rw [her]; rfl, unhide FIN⟩

set_option maxHeartbeats 1000000 in
theorem app_off (g : Nat) (S : Nat → Value) (d : DS) (file : Int) (v : Value) (w : World) (h : Dk w g S d) (hbad : d.on = false ∨ ¬ inF file) :
    Calls Try.prog 28 #[.pointer (some ⟨g, 0, none⟩), .int .i64 file, v] w fun e w' => e = .returned (.int .i64 (d.checkF file)) ∧ w = w' := by
  have hm := file_any g S d file w h
  have hne : ¬ (d.checkF file = 0) := by
    unfold DS.checkF
    rcases hbad with hb | hb
    · simp [hb]
    · unfold inF at hb
      cases d.on <;> simp [hb]
  generalize d.checkF file = c at *
  go_enter Try.func28, Try.ntmps28
  go_wp2_with (go_at_call 39; refine hm.mono ?_; rintro e w' ⟨rfl, rfl⟩)
  go_ret
  exact ⟨rfl, rfl⟩

set_option maxHeartbeats 1000000 in
theorem app_full (g : Nat) (S : Nat → Value) (d : DS) (file : Int) (a : Option Addr) (n cap : Nat) (w : World) (h : Dk w g S d) (hon : d.on = true) (hf : inF file) (hn : d.room < d.used + n) (hn2 : n ≤ maxLen) :
    Calls Try.prog 28 #[.pointer (some ⟨g, 0, none⟩), .int .i64 file, .slice a n cap] w fun e w' => e = .returned (.int .i64 7) ∧ ∃ k, w' = w.drewN k := by
  have hm := file_any g S d file w h
  unfold DS.checkF at hm
  unfold inF at hf
  rw [hon, if_pos rfl, if_pos hf] at hm
  have hu := hide (used_draws g S d w h)
  have c3 := h.cells.c3
  have hroom := h.ok.room2
  have hus2 := h.ok.used
  have t1 : decide ((d.room : Int) - (d.used : Int) < (n : Int)) = true := by simp; omega
  clear h
  unfold maxLen at hn2
  generalize d.used = us at *
  generalize d.room = ro at *
  go_enter Try.func28, Try.ntmps28
  go_wp2_with fail
  refine hm.mono ?_
  rintro e w' ⟨rfl, rfl⟩
  go_wp2_with fail
  go_quiet ((go_at_call 20; exact Calls.quiet_of_same (unhide hu _)))
  go_wp2
  go_ret
  exact ⟨rfl, nq, rfl⟩

/-- Append, whatever it is asked -/
theorem append_any (g : Nat) (S : Nat → Value) (d : DS) (file : Int) (v : Value) (l : List Nat) (w : World) (h : Dk w g S d) (hv : Byt w v l) (hfar : 0 < l.length → ∀ k, v.ownBlock = some k → k ≠ g) :
    Calls Try.prog 28 #[.pointer (some ⟨g, 0, none⟩), .int .i64 file, v] w fun e w' => e = .returned (.int .i64 (d.appE file l.length)) ∧ Did w w' g S (d.appD file l) := by
  by_cases hbad : d.on = false ∨ ¬ inF file
  · refine (app_off g S d file v w h hbad).mono ?_
    rintro e w' ⟨rfl, rfl⟩
    have e1 : d.checkF file = d.appE file l.length := by
      unfold DS.checkF DS.appE
      rcases hbad with hb | hb
      · simp [hb]
      · have hb' := hb
        unfold inF at hb'
        cases d.on <;> simp [hb, hb']
    have e2 : d.appD file l = d := by
      unfold DS.appD
      rcases hbad with hb | hb
      · simp [hb]
      · cases d.on <;> simp [hb]
    rw [e1, e2]
    exact ⟨rfl, Did.same h (Only.refl _ _)⟩
  · have hon : d.on = true := by cases hd : d.on; exact absurd (.inl hd) hbad; rfl
    have hf : inF file := Classical.byContradiction fun q => hbad (.inr q)
    by_cases hfull : d.room < d.used + l.length
    · obtain ⟨a, cap, rfl⟩ := byt_shape hv
      have hlm : l.length ≤ maxLen := by
        rcases hv with ⟨_, rfl⟩ | ⟨_, _, _, h1, h2, _⟩
        · exact Nat.zero_le _
        · omega
      refine (app_full g S d file a l.length cap w h hon hf hfull hlm).mono ?_
      rintro e w' ⟨rfl, k, rfl⟩
      simp only [DS.appE, DS.appD, hon, hf, hfull, if_true]
      exact ⟨trivial, Did.same (h.call (Joins.below_draws _ _ k)) (Only.of_below (Joins.below_draws _ _ k))⟩
    · have hE : d.appE file l.length = d.burnE l.length := by simp only [DS.appE, hon, hf, hfull, if_true, if_false]
      have hD : d.appD file l = d.put file.toNat l := by simp only [DS.appD, hon, hf, hfull, if_true, if_false]
      rw [hE, hD]
      unfold inF at hf
      rcases hv with ⟨rfl, rfl⟩ | ⟨a, cap, rfl, h1, h2, h3⟩
      · rcases (show file = 0 ∨ file = 1 ∨ file = 2 by omega) with rfl | rfl | rfl
        · exact app_none0 g S d w h hon
        · exact app_none1 g S d w h hon
        · exact app_none2 g S d w h hon
      · rcases (show file = 0 ∨ file = 1 ∨ file = 2 by omega) with rfl | rfl | rfl
        · exact app_some0 g S d a cap l w h hon (by omega) h1 h2 h3 (fun q => hfar q _ rfl)
        · exact app_some1 g S d a cap l w h hon (by omega) h1 h2 h3 (fun q => hfar q _ rfl)
        · exact app_some2 g S d a cap l w h hon (by omega) h1 h2 h3 (fun q => hfar q _ rfl)
end Go.Proofs.Ytadjgljimikodaa
