/- For all labels a, b, c the Go function sealskinlaw01.LatticeOrder returns true, and its arguments read as they did. No condition. -/
import Derived.Test.YtbahnkomdndmkaaAwake
import Derived.Test.YtbahnkomdndmkaaOpen
namespace Go.Proofs.Ytbahnkomdndmkaa.order
open Go.ChangeShapes Go.WideShapes Go.ChangeAt Go.RowKit

def S3 (w : World) (la ca lb cb lc cc : Int) (w' : World) : Prop :=
  (w'.cell? ⟨w.heap.size, 0, none⟩ = some (.int .i64 la) ∧ w'.cell? ⟨w.heap.size, 1, none⟩ = some (.int .u32 ca) ∧
  w'.cell? ⟨w.heap.size + 1, 0, none⟩ = some (.int .i64 lb) ∧ w'.cell? ⟨w.heap.size + 1, 1, none⟩ = some (.int .u32 cb) ∧
  w'.cell? ⟨w.heap.size + 1 + 1, 0, none⟩ = some (.int .i64 lc) ∧ w'.cell? ⟨w.heap.size + 1 + 1, 1, none⟩ = some (.int .u32 cc)) ∧ w.heap.size + 2 < w'.heap.size ∧ Below w.heap.size w w'
theorem S3.start (w : World) (la ca lb cb lc cc : Int) : S3 w la ca lb cb lc cc (((w.alloc (.cells #[.int .i64 la, .int .u32 ca] 24)).alloc (.cells #[.int .i64 lb, .int .u32 cb] 24)).alloc (.cells #[.int .i64 lc, .int .u32 cc] 24)) := by
  refine ⟨⟨?_, ?_, ?_, ?_, ?_, ?_⟩, ?_, ?_⟩
  all_goals first | (simp [go_sem]; done) | go_grown
theorem S3.call {w W w1 : World} {la ca lb cb lc cc : Int} (h : S3 w la ca lb cb lc cc W) (hb : Below W.heap.size W w1) : S3 w la ca lb cb lc cc w1 := by
  obtain ⟨⟨h0, h1, h2, h3, h4, h5⟩, hs, bl⟩ := h
  have hz := hb.size
  exact ⟨⟨cell_keep hb (by show w.heap.size < _; omega) h0, cell_keep hb (by show w.heap.size < _; omega) h1, cell_keep hb (by show w.heap.size + 1 < _; omega) h2, cell_keep hb (by show w.heap.size + 1 < _; omega) h3, cell_keep hb (by show w.heap.size + 1 + 1 < _; omega) h4, cell_keep hb (by show w.heap.size + 1 + 1 < _; omega) h5⟩, by omega, bl.trans (hb.mono (by omega))⟩

set_option maxHeartbeats 1000000 in
theorem walk (la ca lb cb lc cc : Int) (w : World) (ha : U32 ca) (hb : U32 cb) (hc : U32 cc) :
    Calls Try.prog 6 #[.agg #[.int .i64 la, .int .u32 ca], .agg #[.int .i64 lb, .int .u32 cb], .agg #[.int .i64 lc, .int .u32 cc]] w fun e w' => e = .returned (.bool true) ∧ Below w.heap.size w w' := by
  have haa := below_refl la ca ha
  cases hab : belowB la ca lb cb
  · go_enter Try.func6, Try.ntmps6
    go_wp2_with (first
      | (go_at_call 10; refine (below_any _ _ _ _ _).mono ?_; rintro e w' ⟨rfl, hb⟩; first | (have hS := S3.call (by assumption) hb; have hF := hS.1; clear hb) | (have hS := S3.call (S3.start w la ca lb cb lc cc) hb; have hF := hS.1; clear hb))
      | (go_at_call 12; refine (awake_any _).mono ?_; rintro e w' ⟨rfl, hb⟩; have hS := S3.call (by assumption) hb; clear hb))
    go_ret
    exact ⟨rfl, hS.2.2⟩
  · cases hba : belowB lb cb la ca
    · cases hbc : belowB lb cb lc cc
      · go_enter Try.func6, Try.ntmps6
        go_wp2_with (first
          | (go_at_call 10; refine (below_any _ _ _ _ _).mono ?_; rintro e w' ⟨rfl, hb⟩; first | (have hS := S3.call (by assumption) hb; have hF := hS.1; clear hb) | (have hS := S3.call (S3.start w la ca lb cb lc cc) hb; have hF := hS.1; clear hb))
          | (go_at_call 12; refine (awake_any _).mono ?_; rintro e w' ⟨rfl, hb⟩; have hS := S3.call (by assumption) hb; clear hb))
        go_ret
        exact ⟨rfl, hS.2.2⟩
      · have hac := below_trans la ca lb cb lc cc ha hb hc hab hbc
        go_enter Try.func6, Try.ntmps6
        go_wp2_with (first
          | (go_at_call 10; refine (below_any _ _ _ _ _).mono ?_; rintro e w' ⟨rfl, hb⟩; first | (have hS := S3.call (by assumption) hb; have hF := hS.1; clear hb) | (have hS := S3.call (S3.start w la ca lb cb lc cc) hb; have hF := hS.1; clear hb))
          | (go_at_call 12; refine (awake_any _).mono ?_; rintro e w' ⟨rfl, hb⟩; have hS := S3.call (by assumption) hb; clear hb))
        go_ret
        exact ⟨rfl, hS.2.2⟩
    · obtain ⟨rfl, rfl⟩ := below_antisymm la ca lb cb ha hb hab hba
      cases hbc : belowB la ca lc cc
      · go_enter Try.func6, Try.ntmps6
        go_wp2_with (first
          | (go_at_call 10; refine (below_any _ _ _ _ _).mono ?_; rintro e w' ⟨rfl, hb⟩; first | (have hS := S3.call (by assumption) hb; have hF := hS.1; clear hb) | (have hS := S3.call (S3.start w la ca la ca lc cc) hb; have hF := hS.1; clear hb))
          | (go_at_call 12; refine (awake_any _).mono ?_; rintro e w' ⟨rfl, hb⟩; have hS := S3.call (by assumption) hb; clear hb))
        go_ret
        exact ⟨rfl, hS.2.2⟩
      · go_enter Try.func6, Try.ntmps6
        go_wp2_with (first
          | (go_at_call 10; refine (below_any _ _ _ _ _).mono ?_; rintro e w' ⟨rfl, hb⟩; first | (have hS := S3.call (by assumption) hb; have hF := hS.1; clear hb) | (have hS := S3.call (S3.start w la ca la ca lc cc) hb; have hF := hS.1; clear hb))
          | (go_at_call 12; refine (awake_any _).mono ?_; rintro e w' ⟨rfl, hb⟩; have hS := S3.call (by assumption) hb; clear hb))
        go_ret
        exact ⟨rfl, hS.2.2⟩

set_option maxRecDepth 100000 in
theorem lifted (os : Os) (started : os.Started) (H : Type) (enc : TypeId × Value → H) :
    ReturnsInHanded {} Try.checked os 6 .any (Rows.latticeOrderSpec.pre6 enc Try.prog Try.f6 Rows.latticeOrderRow.domain false) (Rows.latticeOrderSpec.post enc Try.prog Try.f6 false true false false) := by
  refine returnsInHanded_of_change (C := Try.checked) own started (by kernel_rfl) Try.func6
    (ChangeSpec.witness6 (enc := enc) (C := Try.checked) false ⟨#[], #[.agg #[.int .i64 0, .int .u32 0], .agg #[.int .i64 0, .int .u32 0], .agg #[.int .i64 0, .int .u32 0]], []⟩ 8 (by kernel_rfl) (by kernel_rfl) (by kernel_rfl) (by kernel_rfl)) ?_
  intro W base args ds gs before hval0 hW hcnd _
  have hval : ∀ (j : Nat) t v, Try.f6.params[j]? = some t → args[j]? = some v → Value.okWide Try.prog W .any base t v := hval0
  have hW' := hW
  obtain ⟨p, q, hA0, hV, rfl, hfz, hnd⟩ := hW
  have hA : DataW.TrodAll enc Try.prog W 0 (fun _ => true) true Try.f6.params.toList args.toList ds p := hA0
  rw [Try.params6] at hA hval
  obtain ⟨v0, vs0, d0, ds0, p0, q0, hargs, rfl, rfl, h0, r0⟩ := trodAll_cons hA
  obtain ⟨v1, vs1, d1, ds1, p1, q1, rfl, rfl, rfl, h1, r1⟩ := trodAll_cons r0
  obtain ⟨v2, vs2, d2, ds2, p2, q2, rfl, rfl, rfl, h2, r2⟩ := trodAll_cons r1
  obtain ⟨rfl, rfl, rfl⟩ := trodAll_nil r2
  obtain rfl : args = #[v0, v1, v2] := by cases args; simp_all
  obtain ⟨rfl, rfl⟩ := trodVars_none hV
  have lt0 : ∀ x ∈ p0, x.block < W.heap.size := by obtain ⟨m, hm⟩ := h0; exact DataW.trod_lt m _ _ _ hm
  have lt1 : ∀ x ∈ p1, x.block < W.heap.size := by obtain ⟨m, hm⟩ := h1; exact DataW.trod_lt m _ _ _ hm
  have lt2 : ∀ x ∈ p2, x.block < W.heap.size := by obtain ⟨m, hm⟩ := h2; exact DataW.trod_lt m _ _ _ hm
  obtain ⟨la, ca, rfl, _, ua⟩ := open_label (hval 0 24 v0 rfl rfl) h0
  obtain ⟨lb, cb, rfl, _, ub⟩ := open_label (hval 1 24 v1 rfl rfl) h1
  obtain ⟨lc, cc, rfl, _, uc⟩ := open_label (hval 2 24 v2 rfl rfl) h2
  clear hA0 hval0
  refine (walk la ca lb cb lc cc W ua ub uc).mono fun e W' ⟨he, bel⟩ => ?_
  subst he
  exact ⟨_, rfl, _, _, _, [], _, [], hW', trodAll_mk1 (shut_bool Try.underlying4 _), (trodAll_cons_mk (Below.trod laidOut (by kernel_rfl) (of_decide_eq_true (by kernel_rfl)) h0 bel lt0) (trodAll_cons_mk (Below.trod laidOut (by kernel_rfl) (of_decide_eq_true (by kernel_rfl)) h1 bel lt1) (trodAll_cons_mk (Below.trod laidOut (by kernel_rfl) (of_decide_eq_true (by kernel_rfl)) h2 bel lt2) trodAll_mk0))), rfl, bel.frame _, fun h => by cases h⟩

theorem proved : Rows.LatticeOrderSaid :=
  OpenClaim.holds_of_wide 6 Try.f6 rfl rfl rfl rfl rfl rfl rfl ⟨rfl, rfl, rfl, rfl, rfl⟩ rfl rfl rfl rfl rfl (by kernel_rfl) Try.func6 (by kernel_rfl)
    (of_decide_eq_true (by kernel_rfl)) (by unfold Func.isWrapper; first | (rw [if_pos (by decide +kernel)]; kernel_rfl) | (rw [if_neg (by decide +kernel)]; exact ⟨rfl, rfl⟩))
    (fun os started H enc _ => lifted os started H enc)
#print axioms proved
end Go.Proofs.Ytbahnkomdndmkaa.order
