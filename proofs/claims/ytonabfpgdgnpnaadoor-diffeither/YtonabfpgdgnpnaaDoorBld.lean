/- A strings.Builder that is a field of a sheet. -/
import Derived.Test.YtonabfpgdgnpnaaDoorMem
import Derived.Shelf.Strings.Builder1
namespace Go.Proofs.YtonabfpgdgnpnaaDoor
set_option linter.unusedVariables false
set_option linter.unusedSimpArgs false
open Go.ChangeShapes Go.WideShapes Go.ChangeAt Go.RowKit Go.Joins Go.Deep

theorem info67 : ∃ j, Tryd.prog.info? 71 = some j ∧ j.size = 2 := by
  obtain ⟨j, hj, hs⟩ := Option.map_eq_some_iff.1 (show (Tryd.prog.info? 71).map (·.size) = some 2 by kernel_rfl)
  exact ⟨j, hj, hs⟩
theorem lies67 : liesAt Tryd.prog Tryd.prog.depth 119 (6 / Tryd.prog.cellsOf 119) 4 71 1 = true := by kernel_rfl
set_option maxRecDepth 100000 in
set_option maxHeartbeats 4000000 in
theorem check_used (g : Nat) (w : World) (h0 : w.cell? ⟨g, 4, none⟩ = some (.pointer (some ⟨g, 4, none⟩))) :
    Calls Tryd.prog 60 #[.pointer (some ⟨g, 4, none⟩)] w fun e w' => e = .returned (.tuple #[]) ∧ w = w' := by
  obtain ⟨j, hj, _⟩ := info67
  go_enter Tryd.func60, Tryd.ntmps60
  go_wp2
  rw [Lib.run_neq_ptr_same w _ Tryd.underlying68 hj]
  go_wp2
  go_end0
  exact ⟨rfl, rfl⟩
set_option maxRecDepth 100000 in
set_option maxHeartbeats 4000000 in
theorem check_fresh (g : Nat) (w : World) (cs : List Value) (hr : RowAt w g 119 cs) (hl : cs.length = 6) (h0 : w.cell? ⟨g, 4, none⟩ = some (.pointer none)) :
    Calls Tryd.prog 60 #[.pointer (some ⟨g, 4, none⟩)] w fun e w' => e = .returned (.tuple #[]) ∧ w' = w.setCell ⟨g, 4, none⟩ (.pointer (some ⟨g, 4, none⟩)) := by
  obtain ⟨j, hj, hjs⟩ := info67
  have hsh : w.shape? g = some (119, 6) := by unfold RowAt at hr; simp [World.shape?, hr, hl]
  have hfz : w.frozen? ⟨g, 4, none⟩ = false := hr.frozen 4
  go_enter Tryd.func60, Tryd.ntmps60
  go_wp2
  rw [Lib.run_to_unsafe w ⟨g, 4, none⟩ Tryd.underlying68 Tryd.underlying126 hj (by rw [hjs]; decide) hsh (show (4 : Nat) < 6 by decide)]
  simp only [Result.andThen]
  rw [Oper.upon_value]
  go_wp2
  rw [run_callFunc_extern Tryd.func79 (by kernel_rfl) (by kernel_rfl) (by kernel_rfl) (e := Extern.AbiNoEscape.same) (by kernel_rfl)]
  rw [Lib.run_noEscape]
  simp only [Result.andThen]
  rw [Oper.upon_value]
  go_wp2
  rw [Lib.run_from_unsafe w ⟨g, 4, none⟩ Tryd.underlying126 Tryd.underlying68 hj hsh lies67]
  simp only [Result.andThen]
  rw [Oper.upon_value]
  go_wp2
  go_end0
  exact ⟨rfl, rfl⟩
/-- a sheet's cells: the first four, the builder's own address or none, its bytes -/
def ownPtr (g : Nat) (v : Value) : Prop := v = .pointer none ∨ v = .pointer (some ⟨g, 4, none⟩)
set_option maxRecDepth 100000 in
set_option maxHeartbeats 4000000 in
theorem check_any84 (g : Nat) (w : World) (d0 d1 d2 d3 av bv : Value) (hr : RowAt w g 119 [d0, d1, d2, d3, av, bv]) (ha : ownPtr g av) :
    Calls Tryd.prog 60 #[.pointer (some ⟨g, 4, none⟩)] w fun e w' => e = .returned (.tuple #[]) ∧ RowAt w' g 119 [d0, d1, d2, d3, .pointer (some ⟨g, 4, none⟩), bv] ∧ Only (· = g) w w' := by
  rcases ha with rfl | rfl
  · refine Calls.mono (check_fresh g w _ hr rfl (hr.cell 4)) ?_
    rintro e w' ⟨rfl, rfl⟩
    exact ⟨rfl, hr.set 4 _, (Only.refl _ _).set g 4 _ rfl⟩
  · refine Calls.mono (check_used g w (hr.cell 4)) ?_
    rintro e w' ⟨rfl, rfl⟩
    exact ⟨rfl, hr, Only.refl _ _⟩
theorem infoByte : ∃ i, Tryd.prog.info? 5 = some i ∧ i.zero = some (.int .u8 0) ∧ i.size = 1 ∧ i.bytes = 1 := info_parts (by kernel_rfl)
set_option maxRecDepth 100000 in
set_option maxHeartbeats 4000000 in
theorem write_str (g : Nat) (w : World) (B : Nat) (d0 d1 d2 d3 av bv : Value) (bs : List Value) (s : ByteArray) (hr : RowAt w g 119 [d0, d1, d2, d3, av, bv]) (ha : ownPtr g av) (ho : w.ownsRow B 5 1 bv bs.length bs) (hlen : bs.length + s.size ≤ 140737488355328) (hB : B ≤ w.heap.size) :
    Calls Tryd.prog 40 #[.pointer (some ⟨g, 4, none⟩), .string s] w fun e w' => e = .returned (.tuple #[.int .i64 s.size, .nilIface]) ∧ ∃ bv', RowAt w' g 119 [d0, d1, d2, d3, .pointer (some ⟨g, 4, none⟩), bv'] ∧ w'.ownsRow B 5 1 bv' (bs.length + s.size) (bs ++ Lib.strCells s) ∧ Only (fun k => k = g ∨ bv.ownBlock = some k) w w' := by
  obtain ⟨i0, hi, hz0, hz1, hz2⟩ := infoByte
  have HC := hide (check_any84 g w d0 d1 d2 d3 av bv hr ha)
  have hne := tag_ne ho hr (by decide)
  have HO := hide ho
  have HNE := hide hne
  have HB := hide hB
  have HL := hide hlen
  clear hr ha ho hne hB hlen
  go_enter Tryd.func40, Tryd.ntmps40
  go_wp2_with fail
  refine Calls.mono (unhide HC) ?_
  rintro e w1 ⟨rfl, hr1, ho1⟩
  have hown1 := own_only (unhide HO) ho1 (fun k hk e => unhide HNE (e ▸ hk))
  have hB1 : B ≤ w1.heap.size := Nat.le_trans (unhide HB) ho1.size
  have HR1 := hide hr1
  have HO1 := hide ho1
  have HW1 := hide hown1
  have c4 : w1.cell? ⟨g, 4, none⟩ = some (.pointer (some ⟨g, 4, none⟩)) := hr1.cell 4
  have c5 : w1.cell? ⟨g, 5, none⟩ = some bv := hr1.cell 5
  clear HC HO hr1 ho1 hown1
  go_wp2_with (at_builtin; refine Lib.wpList_append_own_string _ rfl _ _ 69 9 rfl B 5 i0 Tryd.underlying69 Tryd.underlying9 hi hz0 hz1 hz2 _ _ _ rfl (unhide HW1) s rfl ?c3 ?c4 ?c5 ?_)
  case c3 => have := unhide HL; unfold maxLen; omega
  case c4 => exact unhide HL
  case c5 => exact hB1
  intro v' w2 hown' hgrow _
  have hr2 := (unhide HR1).only (grown_only hgrow) (fun e => unhide HNE e)
  have hon := (unhide HO1).mono (q := fun k => k = g ∨ bv.ownBlock = some k) (fun k h => .inl h) |>.trans ((grown_only hgrow).mono (fun k h => .inr h))
  have d4 : w2.cell? ⟨g, 4, none⟩ = some (.pointer (some ⟨g, 4, none⟩)) := hr2.cell 4
  have d5 : w2.cell? ⟨g, 5, none⟩ = some bv := hr2.cell 5
  have f5 : w2.frozen? ⟨g, 5, none⟩ = false := hr2.frozen 5
  obtain ⟨ao, n', cap, rfl⟩ : ∃ ao n' cap, v' = .slice ao n' cap := by
    rcases hown'.2 with ⟨hv, _⟩ | ⟨g, cap, cur, hv, _⟩
    · exact ⟨_, _, _, hv⟩
    · exact ⟨_, _, _, hv⟩
  have HON := hide hon
  have HR2 := hide hr2
  have HOW := hide hown'
  clear hon hr2 hown' hgrow HR1 HO1 HW1 c4 c5
  go_wp2_with fail
  go_ret2
  refine ⟨rfl, _, (unhide HR2).set 5 _, ?_, (unhide HON).set g 5 _ (.inl rfl)⟩
  refine own_only (unhide HOW) ((Only.refl (· = g) w2).set g 5 _ rfl) (fun k hk e => ?_)
  exact tag_ne (unhide HOW) (unhide HR2) (by decide) (e ▸ hk)
set_option maxRecDepth 100000 in
set_option maxHeartbeats 4000000 in
theorem reset_ok (g : Nat) (w : World) (d0 d1 d2 d3 av bv : Value) (hr : RowAt w g 119 [d0, d1, d2, d3, av, bv]) :
    Calls Tryd.prog 92 #[.pointer (some ⟨g, 4, none⟩)] w fun e w' => e = .returned (.tuple #[]) ∧ RowAt w' g 119 [d0, d1, d2, d3, .pointer none, .slice none 0 0] ∧ Only (· = g) w w' := by
  have c4 : w.cell? ⟨g, 4, none⟩ = some av := hr.cell 4
  have c5 : w.cell? ⟨g, 5, none⟩ = some bv := hr.cell 5
  have f4 : w.frozen? ⟨g, 4, none⟩ = false := hr.frozen 4
  have f5 : w.frozen? ⟨g, 5, none⟩ = false := hr.frozen 5
  have HR := hide hr
  clear hr
  go_enter Tryd.func92, Tryd.ntmps92
  go_wp2_with fail
  go_end0
  exact ⟨rfl, ((unhide HR).set 4 _).set 5 _, ((Only.refl (· = g) w).set g 4 _ rfl).set g 5 _ rfl⟩
theorem own_at {w : World} {B n : Nat} {v : Value} {xs : List Value} (h : w.ownsRow B 5 1 v n xs) (hn : n ≠ 0) : ∃ g cap cur, v = .slice (some ⟨g, 0, none⟩) n cap ∧ B ≤ g ∧ w.heap[g]? = some (.cells cur 5 (0, 0)) ∧ n ≤ cap ∧ cap ≤ maxLen ∧ cur.size = cap * 1 ∧ cur.toList.take (n * 1) = xs := by
  rcases h.2 with ⟨_, hz⟩ | ⟨g, cap, cur, hv, r⟩
  · exact absurd hz hn
  · exact ⟨g, cap, cur, hv, r⟩
set_option maxRecDepth 100000 in
set_option maxHeartbeats 4000000 in
theorem string_ok (g : Nat) (w : World) (B : Nat) (d0 d1 d2 d3 av bv : Value) (l : List UInt8) (hr : RowAt w g 119 [d0, d1, d2, d3, av, bv]) (ho : w.ownsRow B 5 1 bv l.length (Lib.byteCells l)) (h0 : l ≠ []) :
    Calls Tryd.prog 42 #[.pointer (some ⟨g, 4, none⟩)] w fun e w' => e = .returned (.string ⟨l.toArray⟩) ∧ Only (fun k => bv.ownBlock = some k) w w' := by
  have hl0 : l.length ≠ 0 := by simpa using h0
  obtain ⟨q, cap, cur, rfl, hbg, hg, hnc, hcm, hcs, htake⟩ := own_at ho hl0
  have c5 : w.drew.cell? ⟨g, 5, none⟩ = some (.slice (some ⟨q, 0, none⟩) l.length cap) := hr.drew.cell 5
  have hSD : (Builtin.unsafeSliceData_ #[69] 100 #[.slice (some ⟨q, 0, none⟩) l.length cap]).run Tryd.prog w.drew = .ok (.pointer (some ⟨q, 0, none⟩)) w.drew :=
    Lib.run_unsafeSliceData_row _ _ _ _ _ _ (by omega)
  have hUS : (Builtin.unsafeString_ #[100, 3] 9 #[.pointer (some ⟨q, 0, none⟩), .int .i64 l.length]).run Tryd.prog w.drew = .ok (.string ⟨l.toArray⟩) (w.drew.freeze ⟨q, 0, none⟩ l.length) := by
    refine Lib.run_unsafeString_row w.drew 100 3 9 5 Tryd.underlying100 (by kernel_rfl) q cur.size (by have hg' : w.drew.heap[q]? = some (.cells cur 5 (0, 0)) := hg; simp [World.shape?, hg']) l h0 (by omega) (by unfold maxLen at hcm; omega) ?_
    intro j x hx
    have := ho.cells (g := q) rfl j (.int .u8 x.toNat) (by simp [Lib.byteCells, hx])
    exact this
  have hB := Lib.below_freeze (Below.drew (Below.refl q w)) (p := ⟨q, 0, none⟩) (Nat.le_refl _) l.length
  have hon : Only (fun k => (Value.slice (some ⟨q, 0, none⟩) l.length cap).ownBlock = some k) w (w.drew.freeze ⟨q, 0, none⟩ l.length) := by
    unfold World.freeze
    split
    · exact (Only.refl _ _).drew
    · exact ⟨rfl, rfl, rfl, by simp, fun k hk hn => by
        simp only [Array.getElem?_modify]
        rw [if_neg (fun e => hn (by simp [Value.ownBlock, e]))]
        rfl⟩
  have HON := hide hon
  clear hr ho hg htake hon hB
  go_enter Tryd.func42, Tryd.ntmps42
  go_wp2
  go_region
  all_goals (go_wp2; go_ret; exact ⟨rfl, unhide HON⟩)
end Go.Proofs.YtonabfpgdgnpnaaDoor
