/- The document's own disk: its calls, the rest. -/
import Derived.Test.YtadjgljimikodaaRef
namespace Go.Proofs.Ytadjgljimikodaa
set_option linter.unusedVariables false
set_option linter.unusedSimpArgs false
open Go.ChangeShapes Go.WideShapes Go.ChangeAt Go.RowKit

set_option maxHeartbeats 1000000 in
theorem rcrash_any (g : Nat) (S : Nat → Value) (d : DS) (w : World) (h : Dk w g S d.flip) :
    Calls Try.prog 16 #[.pointer (some ⟨g, 0, none⟩)] w fun e w' => e = .returned (.int .i64 d.check) ∧ Dk w' g S d.crashD.flip ∧ Only (fun k => k = g) w w' := by
  have c4 := h.cells.c4
  have c5 := h.cells.c5
  have z4 := h.cells.z4
  have z5 := h.cells.z5
  have hD : Dk ((w.setCell ⟨g, 4, none⟩ (.bool true)).setCell ⟨g, 5, none⟩ (.int .i64 0)) g S ({ d with on := false, fuse := 0 } : DS).flip :=
    ⟨(h.cells.setOn true).setFuse 0, (h.rows.setG 4 _).setG 5 _, (h.ok.unflip.turn false 0 (by omega)).flip⟩
  have hO : Only (fun k => k = g) w ((w.setCell ⟨g, 4, none⟩ (.bool true)).setCell ⟨g, 5, none⟩ (.int .i64 0)) := ((Only.refl (fun k => k = g) w).set g 4 _ rfl).set g 5 _ rfl
  have H := hide (And.intro hD hO)
  have H0 := hide h
  clear hD hO h
  unfold DS.check DS.crashD at *
  cases hon : d.on
  · rw [DS.flip_off hon] at c4
    go_enter Try.func16, Try.ntmps16
    go_wp2
    go_ret
    exact ⟨rfl, unhide H0, Only.refl _ _⟩
  · rw [DS.flip_on hon] at c4
    go_enter Try.func16, Try.ntmps16
    go_wp2
    go_ret
    exact ⟨rfl, unhide H⟩

set_option maxHeartbeats 1000000 in
theorem rarm_any (g : Nat) (S : Nat → Value) (d : DS) (n : Int) (w : World) (h : Dk w g S d.flip) (hn : n ≤ 9223372036854775807) :
    Calls Try.prog 17 #[.pointer (some ⟨g, 0, none⟩), .int .i64 n] w fun e w' => e = .returned (.int .i64 (d.armE n)) ∧ Dk w' g S (d.armD n).flip ∧ Only (fun k => k = g) w w' := by
  have c4 := h.cells.c4
  have c5 := h.cells.c5
  have z5 := h.cells.z5
  have H0 := hide h
  unfold DS.armE DS.armD
  cases hon : d.on
  · rw [DS.flip_off hon] at c4
    go_enter Try.func17, Try.ntmps17
    go_wp2
    go_ret
    exact ⟨rfl, unhide H0, Only.refl _ _⟩
  · rw [DS.flip_on hon] at c4
    by_cases h1 : n < 1
    · simp only [h1, if_true]
      go_enter Try.func17, Try.ntmps17
      go_wp2
      go_ret
      exact ⟨rfl, unhide H0, Only.refl _ _⟩
    · simp only [h1, if_false, if_true]
      have hD : Dk (w.setCell ⟨g, 5, none⟩ (.int .i64 ((n.toNat : Nat) : Int))) g S ({ d with fuse := n.toNat } : DS).flip :=
        ⟨h.cells.setFuse _, h.rows.setG 5 _, (h.ok.unflip.turn d.on _ (by omega)).flip⟩
      have hO : Only (fun k => k = g) w (w.setCell ⟨g, 5, none⟩ (.int .i64 ((n.toNat : Nat) : Int))) := (Only.refl (fun k => k = g) w).set g 5 _ rfl
      have H := hide (And.intro hD hO)
      rw [show ((n.toNat : Nat) : Int) = n by omega, hon] at H
      clear hD hO h
      go_enter Try.func17, Try.ntmps17
      go_wp2
      go_ret
      exact ⟨rfl, unhide H⟩

set_option maxHeartbeats 1000000 in
theorem rdisarm_any (g : Nat) (S : Nat → Value) (d : DS) (w : World) (h : Dk w g S d.flip) :
    Calls Try.prog 18 #[.pointer (some ⟨g, 0, none⟩)] w fun e w' => e = .returned (.int .i64 d.check) ∧ Dk w' g S d.disarmD.flip ∧ Only (fun k => k = g) w w' := by
  have c4 := h.cells.c4
  have c5 := h.cells.c5
  have z5 := h.cells.z5
  have H0 := hide h
  have hD : Dk (w.setCell ⟨g, 5, none⟩ (.int .i64 0)) g S ({ d with fuse := 0 } : DS).flip := ⟨h.cells.setFuse 0, h.rows.setG 5 _, (h.ok.unflip.turn d.on _ (by omega)).flip⟩
  have hO : Only (fun k => k = g) w (w.setCell ⟨g, 5, none⟩ (.int .i64 0)) := (Only.refl (fun k => k = g) w).set g 5 _ rfl
  have H := hide (And.intro hD hO)
  clear hD hO h
  unfold DS.check DS.disarmD at *
  cases hon : d.on
  · rw [DS.flip_off hon] at c4
    go_enter Try.func18, Try.ntmps18
    go_wp2
    go_ret
    exact ⟨rfl, unhide H0, Only.refl _ _⟩
  · rw [DS.flip_on hon] at c4
    rw [hon] at H
    go_enter Try.func18, Try.ntmps18
    go_wp2
    go_ret
    exact ⟨rfl, unhide H⟩

theorem DS.burn1_off {d : DS} (hon : d.on = true) : (d.burnD 1).on = true ∧ d.burnE 1 = 0 ∨ (d.burnD 1).on = false ∧ d.burnE 1 = 50 := by
  unfold DS.burnD DS.burnE
  by_cases h0 : d.fuse = 0
  · left; rw [if_pos h0, if_pos h0]; exact ⟨hon, rfl⟩
  · rw [if_neg h0, if_neg h0]
    by_cases h1 : d.fuse ≤ 1
    · right; rw [if_pos h1, if_pos h1]; exact ⟨rfl, rfl⟩
    · left; rw [if_neg h1, if_neg h1]; exact ⟨hon, rfl⟩
theorem DS.wiped_burn (d : DS) (i : Nat) : ({ d with F := upd d.F i [] } : DS).burnD 1 = { d.burnD 1 with F := upd d.F i [] } := by
  unfold DS.burnD
  by_cases h0 : d.fuse = 0 <;> by_cases h1 : d.fuse ≤ 1 <;> simp [h0, h1]

set_option maxHeartbeats 2000000 in
theorem rwipe_any (g : Nat) (S : Nat → Value) (d : DS) (file : Int) (w : World) (h : Dk w g S d.flip) :
    Calls Try.prog 15 #[.pointer (some ⟨g, 0, none⟩), .int .i64 file] w fun e w' => e = .returned (.int .i64 (d.wipeE file)) ∧ Did w w' g S (d.wipeD file).flip := by
  have hm := rmay_any g S d file w h
  have H0 := hide h
  unfold DS.checkF at hm
  unfold DS.wipeE DS.wipeD
  cases hon : d.on
  · rw [hon] at hm
    clear h
    go_enter Try.func15, Try.ntmps15
    go_wp2_with (go_at_call 36; refine hm.mono ?_; rintro e w' ⟨rfl, rfl⟩)
    go_ret
    exact ⟨rfl, Did.same (unhide H0) (Only.refl _ _)⟩
  · by_cases hf : inF file
    · have hf' := hf
      unfold inF at hf'
      rw [hon, if_pos rfl, if_pos hf'] at hm
      simp only [hf, if_true]
      obtain ⟨h0, h3⟩ := hf'
      clear hf
      obtain ⟨c0, c1, c2, -, -, -, z0, z1, z2, -, -, -⟩ := id h.cells
      have hb : ∀ i : Nat, i < 3 → Calls Try.prog 37 #[.pointer (some ⟨g, 0, none⟩)] (w.setCell ⟨g, i, none⟩ (.slice none 0 0)) fun e w' => (∃ v, e = .returned v) ∧ Did w w' g S ({ d.burnD 1 with F := upd d.F i [] } : DS).flip ∧ w'.cell? ⟨g, 4, none⟩ = some (.bool (!(d.burnD 1).on)) := by
        intro i hi
        have hw : Dk (w.setCell ⟨g, i, none⟩ (.slice none 0 0)) g (upd S i (.slice none 0 0)) ({ d with F := upd d.F i [] } : DS).flip := h.wiped i hi
        refine (rburn_any g _ ({ d with F := upd d.F i [] } : DS) _ hw).mono ?_
        rintro e w' ⟨hv, hd, ho⟩
        rw [DS.wiped_burn] at hd
        refine ⟨hv, ⟨_, hd, ?_, fun k hk => Ft.upd (n := w.heap.size) hi (.inl rfl) hk⟩, hd.cells.c4⟩
        exact ((Only.refl (Ft g S) w).set g i _ (.inl rfl)).trans (ho.mono (fun k hk => .inl hk))
      have HB := hide hb
      have hcase := DS.burn1_off hon
      clear hb h H0
      rcases (show file = 0 ∨ file = 1 ∨ file = 2 by omega) with rfl | rfl | rfl
      · have K := unhide HB 0 (by decide)
        have K := hide K
        clear HB
        go_enter Try.func15, Try.ntmps15
        go_wp2_with fail
        refine hm.mono ?_
        rintro e w' ⟨rfl, rfl⟩
        go_wp2_with fail
        refine (unhide K).mono ?_
        rintro e w1 ⟨⟨v, rfl⟩, hd, c4⟩
        have HD := hide hd
        clear hd K
        rcases hcase with ⟨q1, q2⟩ | ⟨q1, q2⟩
        · rw [q1] at c4
          have Q2 := hide q2
          clear q1 q2
          go_wp2
          go_ret
          exact ⟨by rw [unhide Q2]; rfl, unhide HD⟩
        · rw [q1] at c4
          have Q2 := hide q2
          clear q1 q2
          go_wp2
          go_ret
          exact ⟨by rw [unhide Q2]; rfl, unhide HD⟩
      · have K := unhide HB 1 (by decide)
        have K := hide K
        clear HB
        go_enter Try.func15, Try.ntmps15
        go_wp2_with fail
        refine hm.mono ?_
        rintro e w' ⟨rfl, rfl⟩
        go_wp2_with fail
        refine (unhide K).mono ?_
        rintro e w1 ⟨⟨v, rfl⟩, hd, c4⟩
        have HD := hide hd
        clear hd K
        rcases hcase with ⟨q1, q2⟩ | ⟨q1, q2⟩
        · rw [q1] at c4
          have Q2 := hide q2
          clear q1 q2
          go_wp2
          go_ret
          exact ⟨by rw [unhide Q2]; rfl, unhide HD⟩
        · rw [q1] at c4
          have Q2 := hide q2
          clear q1 q2
          go_wp2
          go_ret
          exact ⟨by rw [unhide Q2]; rfl, unhide HD⟩
      · have K := unhide HB 2 (by decide)
        have K := hide K
        clear HB
        go_enter Try.func15, Try.ntmps15
        go_wp2_with fail
        refine hm.mono ?_
        rintro e w' ⟨rfl, rfl⟩
        go_wp2_with fail
        refine (unhide K).mono ?_
        rintro e w1 ⟨⟨v, rfl⟩, hd, c4⟩
        have HD := hide hd
        clear hd K
        rcases hcase with ⟨q1, q2⟩ | ⟨q1, q2⟩
        · rw [q1] at c4
          have Q2 := hide q2
          clear q1 q2
          go_wp2
          go_ret
          exact ⟨by rw [unhide Q2]; rfl, unhide HD⟩
        · rw [q1] at c4
          have Q2 := hide q2
          clear q1 q2
          go_wp2
          go_ret
          exact ⟨by rw [unhide Q2]; rfl, unhide HD⟩
    · have hf' := hf
      unfold inF at hf'
      rw [hon, if_pos rfl, if_neg hf'] at hm
      simp only [hf, if_true, if_false]
      go_enter Try.func15, Try.ntmps15
      go_wp2_with (go_at_call 36; refine hm.mono ?_; rintro e w' ⟨rfl, rfl⟩)
      go_ret
      exact ⟨rfl, Did.same (unhide H0) (Only.refl _ _)⟩

set_option maxHeartbeats 1000000 in
theorem rread_ok (g : Nat) (S : Nat → Value) (d : DS) (i : Nat) (w : World) (h : Dk w g S d.flip) (hon : d.on = true) (hi : i < 3) :
    Calls Try.prog 23 #[.pointer (some ⟨g, 0, none⟩), .int .i64 (i : Int)] w fun e w' => e = .returned (.tuple #[S i, .int .i64 0]) ∧ w = w' := by
  have hm := rmay_any g S d i w h
  unfold DS.checkF at hm
  rw [hon, if_pos rfl, if_pos (by omega)] at hm
  obtain ⟨a, cap, hS⟩ := h.shape i hi
  obtain ⟨c0, c1, c2, -, -, -, z0, z1, z2, -, -, -⟩ := h.cells
  clear h
  rw [hS]
  generalize (d.flip.F i).length = l at *
  rcases (show i = 0 ∨ i = 1 ∨ i = 2 by omega) with rfl | rfl | rfl
  · rw [hS] at c0
    go_enter Try.func23, Try.ntmps23
    go_wp2_with (go_at_call 36; refine hm.mono ?_; rintro e w' ⟨rfl, rfl⟩)
    go_ret2
    exact ⟨rfl, rfl⟩
  · rw [hS] at c1
    go_enter Try.func23, Try.ntmps23
    go_wp2_with (go_at_call 36; refine hm.mono ?_; rintro e w' ⟨rfl, rfl⟩)
    go_ret2
    exact ⟨rfl, rfl⟩
  · rw [hS] at c2
    go_enter Try.func23, Try.ntmps23
    go_wp2_with (go_at_call 36; refine hm.mono ?_; rintro e w' ⟨rfl, rfl⟩)
    go_ret2
    exact ⟨rfl, rfl⟩
set_option maxHeartbeats 1000000 in
theorem rread_bad (g : Nat) (S : Nat → Value) (d : DS) (file : Int) (w : World) (h : Dk w g S d.flip) (hbad : d.on = false ∨ ¬ inF file) :
    Calls Try.prog 23 #[.pointer (some ⟨g, 0, none⟩), .int .i64 file] w fun e w' => e = .returned (.tuple #[.slice none 0 0, .int .i64 (d.checkF file)]) ∧ w = w' := by
  have hm := rmay_any g S d file w h
  have hne : ¬ (d.checkF file = 0) := by
    unfold DS.checkF
    rcases hbad with hb | hb
    · simp [hb]
    · unfold inF at hb
      cases d.on <;> simp [hb]
  generalize d.checkF file = c at *
  go_enter Try.func23, Try.ntmps23
  go_wp2_with (go_at_call 36; refine hm.mono ?_; rintro e w' ⟨rfl, rfl⟩)
  go_ret2
  exact ⟨rfl, rfl⟩
end Go.Proofs.Ytadjgljimikodaa
