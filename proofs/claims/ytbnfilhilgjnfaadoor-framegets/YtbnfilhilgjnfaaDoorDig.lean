/- A digest in memory; its block folded in. -/
import Derived.Test.YtbnfilhilgjnfaaDoorFold
namespace Go.Proofs.YtbnfilhilgjnfaaDoor
set_option linter.unusedVariables false
set_option linter.unusedSimpArgs false
open Go.ChangeShapes Go.WideShapes Go.ChangeAt Go.RowKit

/-- a load by a law of one's own within a quiet walk -/
theorem wpQuiet_load {P : Program} {ops : Array Oper} {C : World → Prop} {Q : Act → Prop} {a : Act} {o : Oper} {rest : List Oper} (hgd : o.guard = none) (ty : TypeId) (x : Operand) (ho : o.op = .load ty x) (p : Addr) (hx : a.eval x = .pointer (some p)) (v : Value)
    (hrun : ∀ w, C w → (loadVar ty p).run P w = .ok v w) (h : wpQuiet P ops C Q rest (a.put o.dst v)) : wpQuiet P ops C Q (o :: rest) a := by
  refine wpQuiet_step fun K hK => ?_
  have hw : Region.wanted o (yielded ops a.tmps) = true := by simp [Region.wanted, hgd]
  rw [if_pos hw]
  refine ⟨v, fun w hC => ?_, hK _ h⟩
  unfold Oper.quietAt execOp
  simp only [ho, hx, Instr.loadAt, Instr.sureAddr, Sem.run_bind, Sem.run_pure, Result.andThen_ok, hrun w hC, Oper.quietUpon]
  exact ⟨trivial, trivial⟩
theorem run_loadVar_sub {P : Program} (w : World) (g o n : Nat) (t ty : TypeId) (pre cs post : List Value) (d : TypeDesc) (hr : RowAt w g t (pre ++ (cs ++ post))) (ho : pre.length = o) (hn : cs.length = n)
    (hu : P.underlying ty = some d) (hd : (match d with | .struct _ | .array _ _ => true | _ => false) = true) (hi : (P.info? ty).map (·.size) = some n) :
    (loadVar ty ⟨g, o, none⟩).run P w = .ok (.agg cs.toArray) w := by
  subst ho hn
  have hl := run_loadCells_list (P := P) w ⟨g, pre.length, none⟩ cs (fun j v hj => by
    rw [add_plain, hr.cell, List.getElem?_append_right (by omega), List.getElem?_append_left (by have := (List.getElem?_eq_some_iff.1 hj).1; omega)]
    rw [show pre.length + j - pre.length = j by omega]
    exact hj)
  cases hq : P.info? ty with
  | none => simp [hq] at hi
  | some i =>
    have hs : i.size = cs.length := by simpa [hq] using hi
    have ha : (isAgg ty).run P w = .ok true w := by
      cases d <;> simp at hd <;> simp [isAgg, run_underlying hu]
    simp [loadVar, ha, sizeOf, typeInfo, hq, hs, hl]

theorem z52 : (Tryd.prog.info? 105).map (·.size) = some 64 := by kernel_rfl
theorem z55 : (Tryd.prog.info? 107).map (·.size) = some 75 := by kernel_rfl

/-- a digest's cells -/
def dcells (h blk : List Nat) (held folded : Nat) (made : Bool) : List Value := u32v h ++ (bv blk ++ [.int .i64 (held : Int), .int .u64 (folded : Int), .bool made])
theorem dcells_len (h blk : List Nat) (held folded : Nat) (made : Bool) (hh : h.length = 8) (hb : blk.length = 64) : (dcells h blk held folded made).length = 75 := by simp [dcells, u32v_len, bv_len, hh, hb]
theorem dcells_get {h blk : List Nat} {held folded : Nat} {made : Bool} (hh : h.length = 8) (hb : blk.length = 64) :
    (dcells h blk held folded made)[72]? = some (.int .i64 (held : Int)) ∧ (dcells h blk held folded made)[73]? = some (.int .u64 (folded : Int)) ∧ (dcells h blk held folded made)[74]? = some (.bool made) := by
  have e1 : (u32v h).length = 8 := by rw [u32v_len, hh]
  have e2 : (bv blk).length = 64 := by rw [bv_len, hb]
  unfold dcells
  refine ⟨?_, ?_, ?_⟩ <;>
    rw [List.getElem?_append_right (by omega), e1, List.getElem?_append_right (by omega), e2] <;> rfl
theorem dcells_set_held (h blk : List Nat) (held held' folded : Nat) (made : Bool) (hh : h.length = 8) (hb : blk.length = 64) : (dcells h blk held folded made).set 72 (.int .i64 (held' : Int)) = dcells h blk held' folded made := by
  have e1 : (u32v h).length = 8 := by rw [u32v_len, hh]
  have e2 : (bv blk).length = 64 := by rw [bv_len, hb]
  unfold dcells
  rw [List.set_append_right _ _ (by omega), e1, List.set_append_right _ _ (by omega), e2]
  rfl
theorem dcells_set_folded (h blk : List Nat) (held folded folded' : Nat) (made : Bool) (hh : h.length = 8) (hb : blk.length = 64) : (dcells h blk held folded made).set 73 (.int .u64 (folded' : Int)) = dcells h blk held folded' made := by
  have e1 : (u32v h).length = 8 := by rw [u32v_len, hh]
  have e2 : (bv blk).length = 64 := by rw [bv_len, hb]
  unfold dcells
  rw [List.set_append_right _ _ (by omega), e1, List.set_append_right _ _ (by omega), e2]
  rfl

set_option maxRecDepth 100000 in
set_option maxHeartbeats 4000000 in
theorem dfold_any (g held folded : Nat) (last made : Bool) (h blk : List Nat) (w : World) (hT : Tabs w) (hg2 : 7 ≤ g) (hh : h.length = 8) (h32 : W32 h) (hb : blk.length = 64) (h8 : U8 blk) (hhe : held ≤ 64) (hfo : folded ≤ 1000000000000)
    (hr : RowAt w g 107 (dcells h blk held folded made)) :
    Calls Tryd.prog 85 #[.pointer (some ⟨g, 0, none⟩), .bool last] w
      fun e w' => e = .returned (.tuple #[]) ∧ RowAt w' g 107 (dcells (foldL h blk (folded + held) last) blk 0 (folded + held) made) ∧ Only (· = g) w w' := by
  obtain ⟨q2, q3, _⟩ := dcells_get (held := held) (folded := folded) (made := made) hh hb
  have c2 := (hr.cell 72).trans q2
  have c3 := (hr.cell 73).trans q3
  have f3 := hr.frozen 73
  have HR := hide hr
  have HT := hide hT
  obtain ⟨s, hs⟩ : ∃ s, s = folded + held := ⟨_, rfl⟩
  have HS := hide hs
  have e0 : IntKind.u64.wrap (held : Int) = (held : Int) := by rw [IntKind.wrap_u64]; omega
  have e2 : IntKind.u64.wrap ((folded : Int) + (held : Int)) = (s : Int) := by rw [IntKind.wrap_u64]; omega
  clear q2 q3 hr hT hs
  go_enter Tryd.func85, Tryd.ntmps85
  go_wp2_with fail
  refine wp_region_tail 12 (by kernel_rfl) (by kernel_rfl) ?_
  simp only [List.take_succ_cons, List.take_zero, List.drop_succ_cons, List.drop_zero]
  repeat (go_big_quiet_step (fail))
  refine wpQuiet_nil ?_
  go_wp2_with fail
  have r1 := ((unhide HR).set 73 (.int .u64 (s : Int))).drew
  rw [dcells_set_folded _ _ _ _ _ _ hh hb] at r1
  have o1 : Only (· = g) w (w.setCell ⟨g, 73, none⟩ (.int .u64 (s : Int))).drew := ((Only.refl (· = g) w).set g 73 _ rfl).drew
  have T1 := (unhide HT).only o1 (fun k hk => by omega)
  have HR1 : Hid (RowAt (w.setCell ⟨g, 73, none⟩ (.int .u64 (s : Int))).drew g 107 (dcells h blk held s made)) := hide r1
  have HO1 := hide o1
  have HT1 := hide T1
  have HSF : Hid (s < 18446744073709551616) := hide (by have := unhide HS; omega)
  clear r1 o1 T1 HR HT c2 c3 f3 e0 e2
  generalize (w.setCell ⟨g, 73, none⟩ (.int .u64 (s : Int))).drew = w1 at *
  obtain ⟨q2, q3, _⟩ := dcells_get (held := held) (folded := s) (made := made) hh hb
  have k3 := ((unhide HR1).drew.cell 73).trans q3
  have HLD : Hid (∀ w', w' = w1.drew → (loadVar 105 ⟨g, 8, none⟩).run Tryd.prog w' = .ok (.agg (bv blk).toArray) w') := hide (fun w' e => by
    subst e
    exact run_loadVar_sub _ g 8 64 107 105 (u32v h) (bv blk) _ _ (unhide HR1).drew (by rw [u32v_len, hh]) (by rw [bv_len, hb]) Tryd.underlying105 rfl z52)
  have HSFO := hide (sfold_any g s 107 last h blk _ w1.drew ((unhide HT1).only (Only.drew (Only.refl (· = g) w1)) (fun k hk => by omega)) hg2 hh h32 hb h8 (unhide HSF) (unhide HR1).drew)
  clear q2 q3
  refine wp_region_tail 12 (by kernel_rfl) (by kernel_rfl) ?_
  simp only [List.take_succ_cons, List.take_zero, List.drop_succ_cons, List.drop_zero]
  obtain ⟨M, hM⟩ : ∃ M, (bv blk).toArray = M := ⟨_, rfl⟩
  rw [hM] at HLD HSFO
  clear hM
  repeat (first | (refine wpQuiet_load rfl 105 _ rfl ⟨g, 8, none⟩ rfl _ (unhide HLD) ?_; simp only [Act.put, List.setIfInBounds_toArray, List.set_cons_succ, List.set_cons_zero]) | go_big_quiet_step (fail))
  refine wpQuiet_nil ?_
  go_wp2_with fail
  refine Calls.mono (unhide HSFO) ?_
  rintro e w2 ⟨rfl, r2, o2⟩
  have r3 := RowAt.set r2 72 (.int .i64 (0 : Int))
  have r4 := dcells_set_held (foldL h blk s last) blk held 0 s made (foldL_len _ _ _ _) hb
  have HR3 : Hid (RowAt (w2.setCell ⟨g, 72, none⟩ (.int .i64 0)) g 107 (dcells (foldL h blk s last) blk 0 s made)) := hide (by rw [← r4]; exact r3)
  have HO3 : Hid (Only (· = g) w (w2.setCell ⟨g, 72, none⟩ (.int .i64 0))) := hide (((unhide HO1).drew.trans o2).set g 72 _ rfl)
  obtain ⟨q2, _, _⟩ := dcells_get (held := held) (folded := s) (made := made) (h := foldL h blk s last) (foldL_len _ _ _ _) hb
  have k2 := (r2.cell 72).trans q2
  have f2 := r2.frozen 72
  have hs := unhide HS
  clear r2 o2 r3 r4 HSFO HLD k3 HR1 HO1 HT1
  go_wp2_with fail
  go_end0
  rw [← hs]
  exact ⟨rfl, unhide HR3, unhide HO3⟩
end Go.Proofs.YtbnfilhilgjnfaaDoor
