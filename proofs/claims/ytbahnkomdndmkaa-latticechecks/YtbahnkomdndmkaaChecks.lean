/- For all labels a, b the Go function sealskinlaw01.LatticeChecks returns true, and its arguments read as they did. No condition. -/
import Derived.Test.YtbahnkomdndmkaaRef
import Derived.Test.YtbahnkomdndmkaaOpen
namespace Go.Proofs.Ytbahnkomdndmkaa.checks
open Go.ChangeShapes Go.WideShapes Go.ChangeAt Go.RowKit

set_option maxHeartbeats 1000000 in
theorem walk (la lb : Int) (a b : Nat) (w : World) (ua : a < 4294967296) (ub : b < 4294967296) :
    Calls Try.prog 3 #[.agg #[.int .i64 la, .int .u32 (a : Int)], .agg #[.int .i64 lb, .int .u32 (b : Int)]] w fun e w' => e = .returned (.bool true) ∧ Below w.heap.size w w' := by
  go_enter Try.func3, Try.ntmps3
  go_wp2_with fail
  have hst := S2.start w la a lb b
  generalize ((w.alloc (Obj.cells #[Value.int IntKind.i64 la, Value.int IntKind.u32 (a : Int)] 24)).alloc (Obj.cells #[Value.int IntKind.i64 lb, Value.int IntKind.u32 (b : Int)] 24)) = W0 at *
  have hst' := hst
  unfold S2 at hst'
  go_region_held3 (fun w' => (w'.cell? ⟨w.heap.size, 0, none⟩ = some (.int .i64 la) ∧ w'.cell? ⟨w.heap.size, 1, none⟩ = some (.int .u32 (a : Int)) ∧ w'.cell? ⟨w.heap.size + 1, 0, none⟩ = some (.int .i64 lb) ∧ w'.cell? ⟨w.heap.size + 1, 1, none⟩ = some (.int .u32 (b : Int))) ∧ w.heap.size + 1 < w'.heap.size ∧ Below w.heap.size w w')
    (first | exact S2.drew (by assumption) | exact S2.call (by assumption) (by assumption))
    (first
      | (go_at_call 8; refine (check_any _ _ _).mono ?_; rintro e w' ⟨rfl, hb⟩)
      | (go_at_call 9; refine (refcheck_any _ _ _).mono ?_; rintro e w' ⟨rfl, hb⟩)
      | (go_at_call 10; refine (below_any _ _ _ _ _).mono ?_; rintro e w' ⟨rfl, hb⟩)
      | (go_at_call 11; refine (refbelow_any _ _ _ _ _ ?_ ?_).mono ?_; (exact ua); (exact ub); rintro e w' ⟨rfl, hb⟩)
      | (go_at_call 12; refine (awake_any _).mono ?_; rintro e w' ⟨rfl, hb⟩))
  all_goals go_wp2
  all_goals go_ret
  all_goals
    have hS : S2 w la a lb b w' := by assumption
    exact ⟨rfl, hS.2.2⟩
set_option maxRecDepth 100000 in
theorem lifted (os : Os) (started : os.Started) (H : Type) (enc : TypeId × Value → H) :
    ReturnsInHanded {} Try.checked os 3 .any (Rows.latticeChecksSpec.pre6 enc Try.prog Try.f3 Rows.latticeChecksRow.domain false) (Rows.latticeChecksSpec.post enc Try.prog Try.f3 false true false false) := by
  refine returnsInHanded_of_change (C := Try.checked) own started (by kernel_rfl) Try.func3
    (ChangeSpec.witness6 (enc := enc) (C := Try.checked) false ⟨#[], #[.agg #[.int .i64 0, .int .u32 0], .agg #[.int .i64 0, .int .u32 0]], []⟩ 8 (by kernel_rfl) (by kernel_rfl) (by kernel_rfl) (by kernel_rfl)) ?_
  intro W base args ds gs before hval0 hW hcnd _
  have hval : ∀ (j : Nat) t v, Try.f3.params[j]? = some t → args[j]? = some v → Value.okWide Try.prog W .any base t v := hval0
  have hW' := hW
  obtain ⟨p, q, hA0, hV, rfl, hfz, hnd⟩ := hW
  have hA : DataW.TrodAll enc Try.prog W 0 (fun _ => true) true Try.f3.params.toList args.toList ds p := hA0
  rw [Try.params3] at hA hval
  obtain ⟨v0, vs0, d0, ds0, p0, q0, hargs, rfl, rfl, h0, r0⟩ := trodAll_cons hA
  obtain ⟨v1, vs1, d1, ds1, p1, q1, rfl, rfl, rfl, h1, r1⟩ := trodAll_cons r0
  obtain ⟨rfl, rfl, rfl⟩ := trodAll_nil r1
  obtain rfl : args = #[v0, v1] := by cases args; simp_all
  obtain ⟨rfl, rfl⟩ := trodVars_none hV
  have lt0 : ∀ x ∈ p0, x.block < W.heap.size := by obtain ⟨m, hm⟩ := h0; exact DataW.trod_lt m _ _ _ hm
  have lt1 : ∀ x ∈ p1, x.block < W.heap.size := by obtain ⟨m, hm⟩ := h1; exact DataW.trod_lt m _ _ _ hm
  obtain ⟨l0, c0, rfl, _, u0⟩ := open_label (hval 0 24 v0 rfl rfl) h0
  obtain ⟨l1, c1, rfl, _, u1⟩ := open_label (hval 1 24 v1 rfl rfl) h1
  obtain ⟨a, rfl⟩ := Int.eq_ofNat_of_zero_le u0.1
  obtain ⟨b, rfl⟩ := Int.eq_ofNat_of_zero_le u1.1
  have ua := u0.2
  have ub := u1.2
  clear hA0 hval0
  refine (walk l0 l1 a b W (by omega) (by omega)).mono fun e W' ⟨he, bel⟩ => ?_
  subst he
  exact ⟨_, rfl, _, _, _, [], _, [], hW', trodAll_mk1 (shut_bool Try.underlying4 _), (trodAll_cons_mk (Below.trod laidOut (by kernel_rfl) (of_decide_eq_true (by kernel_rfl)) h0 bel lt0) (trodAll_cons_mk (Below.trod laidOut (by kernel_rfl) (of_decide_eq_true (by kernel_rfl)) h1 bel lt1) trodAll_mk0)), rfl, bel.frame _, fun h => by cases h⟩

theorem proved : Rows.LatticeChecksSaid :=
  OpenClaim.holds_of_wide 3 Try.f3 rfl rfl rfl rfl rfl rfl rfl ⟨rfl, rfl, rfl, rfl, rfl⟩ rfl rfl rfl rfl rfl (by kernel_rfl) Try.func3 (by kernel_rfl)
    (of_decide_eq_true (by kernel_rfl)) (by unfold Func.isWrapper; first | (rw [if_pos (by decide +kernel)]; kernel_rfl) | (rw [if_neg (by decide +kernel)]; exact ⟨rfl, rfl⟩))
    (fun os started H enc _ => lifted os started H enc)
#print axioms proved
end Go.Proofs.Ytbahnkomdndmkaa.checks
