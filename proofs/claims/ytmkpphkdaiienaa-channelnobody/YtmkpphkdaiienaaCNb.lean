/- An end that no call made: ChannelNobody. -/
import Derived.Test.YtmkpphkdaiienaaCAw
namespace Go.Proofs.Ytmkpphkdaiienaa
set_option linter.unusedVariables false
set_option linter.unusedSimpArgs false
open Go.ChangeShapes Go.WideShapes Go.ChangeAt Go.RowKit Go.Joins Go.Deep

structure Nb (w wr : World) (b : Nat) (c q a : Int) (v : Value) : Prop where
  d : RowAt wr b 34 [.int .i64 c, .int .i64 q, .int .i64 a, v]
  z : RowAt wr (b + 1) 80 [.int .i64 0, .slice none 0 0, .int .i64 0, .map none, .bool false, .int .i64 0]
  l : RowAt wr (b + 1 + 1) 23 [.pointer none, .pointer (some ⟨b + 1, 0, none⟩)]
  bel : Below w.heap.size w wr
theorem Nb.call {w wr w' : World} {b : Nat} {c q a : Int} {v : Value} (h : Nb w wr b c q a v) (hb : Below wr.heap.size wr w') : Nb w w' b c q a v :=
  ⟨h.d.below hb h.d.lt, h.z.below hb h.z.lt, h.l.below hb h.l.lt, h.bel.trans (hb.mono h.bel.size)⟩
theorem Nb.start (w : World) (c q a : Int) (v : Value) : Nb w (((w.alloc (.cells #[.int .i64 c, .int .i64 q, .int .i64 a, v] 34)).alloc (.cells #[.int .i64 0, .slice none 0 0, .int .i64 0, .map none, .bool false, .int .i64 0] 80)).alloc (.cells #[.pointer none, .pointer (some ⟨w.heap.size + 1, 0, none⟩)] 23)) w.heap.size c q a v := by
  refine ⟨?_, ?_, ?_, ?_⟩
  · have h := RowAt.new w 34 [.int .i64 c, .int .i64 q, .int .i64 a, v]
    exact (h.below ((Below.refl _ _).alloc (Nat.le_refl _) _) h.lt).below ((Below.refl _ _).alloc (Nat.le_refl _) _) (by simp only [size_alloc]; omega)
  · have h := RowAt.new (w.alloc (.cells #[.int .i64 c, .int .i64 q, .int .i64 a, v] 34)) 80 [.int .i64 0, .slice none 0 0, .int .i64 0, .map none, .bool false, .int .i64 0]
    rw [size_alloc] at h
    exact h.below ((Below.refl _ _).alloc (Nat.le_refl _) _) h.lt
  · have h := RowAt.new ((w.alloc (.cells #[.int .i64 c, .int .i64 q, .int .i64 a, v] 34)).alloc (.cells #[.int .i64 0, .slice none 0 0, .int .i64 0, .map none, .bool false, .int .i64 0] 80)) 23 [.pointer none, .pointer (some ⟨w.heap.size + 1, 0, none⟩)]
    rw [size_alloc, size_alloc] at h
    exact h
  · exact (((Below.refl _ _).alloc (Nat.le_refl _) _).alloc (by rw [size_alloc]; omega) _).alloc (by rw [size_alloc, size_alloc]; omega) _
set_option maxRecDepth 100000 in
set_option maxHeartbeats 4000000 in
theorem nobody_law (c q a : Int) (av : Option Addr) (nv cv : Nat) (w : World) : Calls Try.prog 9 #[frV c q a (.slice av nv cv)] w fun r w' => r = .returned (.bool true) ∧ Below w.heap.size w w' := by
  have HS := hide (Nb.start w c q a (.slice av nv cv))
  unfold frV
  go_enter Try.func9, Try.ntmps9
  go_wp2_with fail
  generalize (((w.alloc (.cells #[.int .i64 c, .int .i64 q, .int .i64 a, .slice av nv cv] 34)).alloc (.cells #[.int .i64 0, .slice none 0 0, .int .i64 0, .map none, .bool false, .int .i64 0] 80)).alloc (.cells #[.pointer none, .pointer (some ⟨w.heap.size + 1, 0, none⟩)] 23)) = ws at *
  go_loopw [11] (fun s wr => ∃ k : Nat, k ≤ 2 ∧ s = .int .i64 (k : Int) ∧ Hid (Nb w wr w.heap.size c q a (.slice av nv cv))) (fun s _ => (2 - intOf s).toNat)
  case atStart => exact ⟨0, by omega, by simp, HS⟩
  case round =>
    clear HS
    obtain ⟨k, hk, rfl, HI⟩ := hrel
    obtain ⟨b, hbb⟩ : ∃ b, w.heap.size = b := ⟨_, rfl⟩
    rw [hbb] at HI ⊢
    have HBB := hide hbb
    clear hbb
    obtain rfl | rfl | rfl : k = 0 ∨ k = 1 ∨ k = 2 := by omega
    · have hd : wr.cell? ⟨b + 1 + 1, 0, none⟩ = some (.pointer none) := (unhide HI).l.cell 0
      have d0 : wr.cell? ⟨b, 0, none⟩ = some (.int .i64 c) := (unhide HI).d.cell 0
      have d1 : wr.cell? ⟨b, 1, none⟩ = some (.int .i64 q) := (unhide HI).d.cell 1
      have d2 : wr.cell? ⟨b, 2, none⟩ = some (.int .i64 a) := (unhide HI).d.cell 2
      have d3 : wr.cell? ⟨b, 3, none⟩ = some (.slice av nv cv) := (unhide HI).d.cell 3
      go_wp2_with fail
      refine Calls.mono (take_nob none c q a (.slice av nv cv) wr (.inl rfl)) ?_
      rintro r w1 ⟨rfl, b1⟩
      clear hd d0 d1 d2 d3
      have HI := hide ((unhide HI).call b1)
      clear b1
      have d0 : w1.cell? ⟨b, 0, none⟩ = some (.int .i64 c) := (unhide HI).d.cell 0
      have d1 : w1.cell? ⟨b, 1, none⟩ = some (.int .i64 q) := (unhide HI).d.cell 1
      have d2 : w1.cell? ⟨b, 2, none⟩ = some (.int .i64 a) := (unhide HI).d.cell 2
      have d3 : w1.cell? ⟨b, 3, none⟩ = some (.slice av nv cv) := (unhide HI).d.cell 3
      have hN : Nob w1 none := .inl rfl
      have HN := hide hN
      clear hN
      go_wp2_with fail
      refine Calls.mono (send_nob none (.slice av nv cv) w1 (unhide HN)) ?_
      rintro r w2 ⟨rfl, rfl⟩
      go_wp2_with fail
      refine Calls.mono (tick_nob none w1 (unhide HN)) ?_
      rintro r w2 ⟨rfl, rfl⟩
      go_wp2_with fail
      refine Calls.mono (out_nob none w1 (unhide HN)) ?_
      rintro r w2 ⟨rfl, rfl⟩
      go_wp2_with fail
      refine Calls.mono (waiting_nob none w1 (unhide HN)) ?_
      rintro r w2 ⟨rfl, rfl⟩
      go_wp2_with fail
      refine Calls.mono (taken_nob none w1 (unhide HN)) ?_
      rintro r w2 ⟨rfl, rfl⟩
      go_wp2_with fail
      refine Calls.mono (conn_nob none w1 (unhide HN)) ?_
      rintro r w2 ⟨rfl, rfl⟩
      go_wp2_with fail
      refine Calls.mono (calm_nob none w1 (unhide HN)) ?_
      rintro r w2 ⟨rfl, rfl⟩
      go_wp2_with fail
      refine Calls.mono (clone_nob none w1 (unhide HN)) ?_
      rintro r w2 ⟨rfl, rfl⟩
      go_wp2_with fail
      go_roundw
      case rel => exact ⟨0 + 1, by omega, by simp, HI⟩
      case measure => simp [intOf]
    · have hd : wr.cell? ⟨b + 1 + 1, 1, none⟩ = some (.pointer (some ⟨b + 1, 0, none⟩)) := (unhide HI).l.cell 1
      have d0 : wr.cell? ⟨b, 0, none⟩ = some (.int .i64 c) := (unhide HI).d.cell 0
      have d1 : wr.cell? ⟨b, 1, none⟩ = some (.int .i64 q) := (unhide HI).d.cell 1
      have d2 : wr.cell? ⟨b, 2, none⟩ = some (.int .i64 a) := (unhide HI).d.cell 2
      have d3 : wr.cell? ⟨b, 3, none⟩ = some (.slice av nv cv) := (unhide HI).d.cell 3
      go_wp2_with fail
      refine Calls.mono (take_nob (some ⟨b + 1, 0, none⟩) c q a (.slice av nv cv) wr (.inr ⟨_, rfl, (unhide HI).z.cell 5⟩)) ?_
      rintro r w1 ⟨rfl, b1⟩
      clear hd d0 d1 d2 d3
      have HI := hide ((unhide HI).call b1)
      clear b1
      have d0 : w1.cell? ⟨b, 0, none⟩ = some (.int .i64 c) := (unhide HI).d.cell 0
      have d1 : w1.cell? ⟨b, 1, none⟩ = some (.int .i64 q) := (unhide HI).d.cell 1
      have d2 : w1.cell? ⟨b, 2, none⟩ = some (.int .i64 a) := (unhide HI).d.cell 2
      have d3 : w1.cell? ⟨b, 3, none⟩ = some (.slice av nv cv) := (unhide HI).d.cell 3
      have hN : Nob w1 (some ⟨b + 1, 0, none⟩) := .inr ⟨_, rfl, (unhide HI).z.cell 5⟩
      have HN := hide hN
      clear hN
      go_wp2_with fail
      refine Calls.mono (send_nob (some ⟨b + 1, 0, none⟩) (.slice av nv cv) w1 (unhide HN)) ?_
      rintro r w2 ⟨rfl, rfl⟩
      go_wp2_with fail
      refine Calls.mono (tick_nob (some ⟨b + 1, 0, none⟩) w1 (unhide HN)) ?_
      rintro r w2 ⟨rfl, rfl⟩
      go_wp2_with fail
      refine Calls.mono (out_nob (some ⟨b + 1, 0, none⟩) w1 (unhide HN)) ?_
      rintro r w2 ⟨rfl, rfl⟩
      go_wp2_with fail
      refine Calls.mono (waiting_nob (some ⟨b + 1, 0, none⟩) w1 (unhide HN)) ?_
      rintro r w2 ⟨rfl, rfl⟩
      go_wp2_with fail
      refine Calls.mono (taken_nob (some ⟨b + 1, 0, none⟩) w1 (unhide HN)) ?_
      rintro r w2 ⟨rfl, rfl⟩
      go_wp2_with fail
      refine Calls.mono (conn_nob (some ⟨b + 1, 0, none⟩) w1 (unhide HN)) ?_
      rintro r w2 ⟨rfl, rfl⟩
      go_wp2_with fail
      refine Calls.mono (calm_nob (some ⟨b + 1, 0, none⟩) w1 (unhide HN)) ?_
      rintro r w2 ⟨rfl, rfl⟩
      go_wp2_with fail
      refine Calls.mono (clone_nob (some ⟨b + 1, 0, none⟩) w1 (unhide HN)) ?_
      rintro r w2 ⟨rfl, rfl⟩
      go_wp2_with fail
      go_roundw
      case rel => exact ⟨1 + 1, by omega, by simp, HI⟩
      case measure => simp [intOf]
    · have HB := hide (unhide HI).bel
      clear HI
      go_wp2_with fail
      refine Calls.mono (awake_any wr) ?_
      rintro r w1 ⟨rfl, b1⟩
      have HE : Hid (Below w.heap.size w w1) := hide ((unhide HB).trans (b1.mono (unhide HB).size))
      clear b1
      go_wp2_with fail
      go_ret
      exact ⟨rfl, unhide HE⟩
end Go.Proofs.Ytmkpphkdaiienaa
