/- For all labels and every label x the Go function sealskinlaw01.LatticeBounds returns true, and its arguments read as they did. No condition. -/
import Derived.Test.YtbahnkomdndmkaaBounds
namespace Go.Proofs.Ytbahnkomdndmkaa.bounds
set_option linter.unusedVariables false
set_option linter.unusedSimpArgs false
open Go.ChangeShapes Go.WideShapes Go.ChangeAt Go.RowKit Go.Joins Go.Deep

theorem open_labels {H : Type} {enc : TypeId × Value → H} {W : World} {b0 base : Nat} {spare : Nat → Bool} {held : Bool} {v : Value} {d : DataW H} {p : List MemPlace}
    (hv : Value.okWide Try.prog W .any b0 29 v) (h : DataW.Trod enc Try.prog W base spare held 29 v d p) :
    ∃ (a : Option Addr) (n c : Nat) (L C : Nat → Int), v = .slice a n c ∧ PolLabs W a n L C ∧ n ≤ c ∧ c ≤ maxLen := by
  obtain ⟨a0, len0, cap0, rfl⟩ := okWide_slice Try.underlying29 hv
  obtain ⟨fuel, hy0⟩ := h
  rcases open_slice_pairs Try.underlying29 Try.underlying24 (by kernel_rfl) rfl rfl (by kernel_rfl) (by kernel_rfl) hy0 with ⟨hcs, _⟩ | ⟨a, len, cap, k, n, V0, V1, D0, D1, P0, P1, hcs, _, hl, hm, hk, _, hx⟩
  · simp [Value.cells] at hcs
    obtain ⟨rfl, rfl, rfl⟩ := hcs
    exact ⟨none, 0, 0, fun _ => 0, fun _ => 0, rfl, ⟨Nat.zero_le _, fun i hi => by omega, .inl rfl⟩, Nat.le_refl _, Nat.zero_le _⟩
  · simp [Value.cells] at hcs
    obtain ⟨rfl, rfl, rfl⟩ := hcs
    have hlk : len0 ≤ k := by rw [hk]; split <;> omega
    have each : ∀ i, i < len0 → ∃ q : Int × Int, W.cell? (a.add (i * 2)) = some (.int .i64 q.1) ∧ W.cell? (a.add (i * 2 + 1)) = some (.int .u32 q.2) ∧ I64 q.1 ∧ U32 q.2 := by
      intro i hi
      obtain ⟨h0, h1, t0, t1⟩ := hx i (by omega)
      obtain ⟨l, e0, _, wl⟩ := DataW.trod_int Try.underlying3 t0
      obtain ⟨c, e1, _, wc⟩ := DataW.trod_int Try.underlying22 t1
      simp at e0 e1
      rw [e0] at h0
      rw [e1] at h1
      have := bounds_u32 wc
      exact ⟨(l, c), h0, h1, bounds_i64 wl, by constructor <;> simp <;> omega⟩
    obtain ⟨q, hq⟩ := choose_lt each
    refine ⟨some a, len0, cap0, fun i => (q i).1, fun i => (q i).2, rfl, ⟨by omega, fun i hi => (hq i hi).2.2.2, ?_⟩, hl, hm⟩
    by_cases hz : len0 = 0
    · exact .inl hz
    · obtain ⟨b, off, spot⟩ := a
      have h0 := (hq 0 (by omega)).1
      have hspot : spot = none := by simpa [Addr.add] using World.cell?_spot h0
      subst hspot
      refine .inr ⟨b, off, rfl, lt_of_cell h0, fun i hi => ?_⟩
      have := hq i hi
      rw [add_plain, add_plain] at this
      exact ⟨this.1, this.2.1⟩

theorem walk (a : Option Addr) (n cap : Nat) (L C : Nat → Int) (lx cx : Int) (w : World) (hp : PolLabs w a n L C) (hcap : n ≤ cap) (hmax : cap ≤ maxLen) (ux : U32 cx) :
    Calls Try.prog 7 #[.slice a n cap, .agg #[.int .i64 lx, .int .u32 cx]] w fun e w' => e = .returned (.bool true) ∧ Below w.heap.size w w' := by
  by_cases hl : 200 < n
  · exact walk_long a n cap lx cx w (by omega)
  · rcases hp.2.2 with h0 | ⟨b, off, rfl, hb0, hrow⟩
    · subst h0
      exact walk_none a cap lx cx w
    · match n, hrow, hcap, hp, hl with
      | 0, _, _, _, _ => exact walk_none _ cap lx cx w
      | m + 1, hrow, hcap, hp, hl => exact walk_in b off m cap L C lx cx w hrow hb0 hcap hmax hp.2.1 ux (by omega)

set_option maxRecDepth 100000 in
theorem lifted (os : Os) (started : os.Started) (H : Type) (enc : TypeId × Value → H) :
    ReturnsInHanded {} Try.checked os 7 .any (Rows.latticeBoundsSpec.pre6 enc Try.prog Try.f7 Rows.latticeBoundsRow.domain false) (Rows.latticeBoundsSpec.post enc Try.prog Try.f7 false true false false) := by
  refine returnsInHanded_of_change (C := Try.checked) own started (by kernel_rfl) Try.func7
    (ChangeSpec.witness6 (enc := enc) (C := Try.checked) false ⟨#[], #[.slice none 0 0, .agg #[.int .i64 0, .int .u32 0]], []⟩ 8 (by kernel_rfl) (by kernel_rfl) (by kernel_rfl) (by kernel_rfl)) ?_
  intro W base args ds gs before hval0 hW hcnd _
  have hval : ∀ (j : Nat) t v, Try.f7.params[j]? = some t → args[j]? = some v → Value.okWide Try.prog W .any base t v := hval0
  have hW' := hW
  obtain ⟨p, q, hA0, hV, rfl, hfz, hnd⟩ := hW
  have hA : DataW.TrodAll enc Try.prog W 0 (fun _ => true) true Try.f7.params.toList args.toList ds p := hA0
  rw [Try.params7] at hA hval
  obtain ⟨v0, vs0, d0, ds0, p0, q0, hargs, rfl, rfl, h0, r0⟩ := trodAll_cons hA
  obtain ⟨v1, vs1, d1, ds1, p1, q1, rfl, rfl, rfl, h1, r1⟩ := trodAll_cons r0
  obtain ⟨rfl, rfl, rfl⟩ := trodAll_nil r1
  obtain rfl : args = #[v0, v1] := by cases args; simp_all
  obtain ⟨rfl, rfl⟩ := trodVars_none hV
  have lt0 : ∀ x ∈ p0, x.block < W.heap.size := by obtain ⟨m, hm⟩ := h0; exact DataW.trod_lt m _ _ _ hm
  have lt1 : ∀ x ∈ p1, x.block < W.heap.size := by obtain ⟨m, hm⟩ := h1; exact DataW.trod_lt m _ _ _ hm
  obtain ⟨a, n, c, L, C, rfl, pl, hc0, hm0⟩ := open_labels (hval 0 29 v0 rfl rfl) h0
  obtain ⟨lx, cx, rfl, _, ux⟩ := open_label (hval 1 24 v1 rfl rfl) h1
  clear hA0 hval0
  refine (walk a n c L C lx cx W pl hc0 hm0 ux).mono fun e W' ⟨he, bel⟩ => ?_
  subst he
  exact ⟨_, rfl, _, _, _, [], _, [], hW', trodAll_mk1 (shut_bool Try.underlying4 _), (trodAll_cons_mk (Below.trod laidOut (by kernel_rfl) (of_decide_eq_true (by kernel_rfl)) h0 bel lt0) (trodAll_cons_mk (Below.trod laidOut (by kernel_rfl) (of_decide_eq_true (by kernel_rfl)) h1 bel lt1) trodAll_mk0)), rfl, bel.frame _, fun h => by cases h⟩

theorem proved : Rows.LatticeBoundsSaid :=
  OpenClaim.holds_of_wide 7 Try.f7 rfl rfl rfl rfl rfl rfl rfl ⟨rfl, rfl, rfl, rfl, rfl⟩ rfl rfl rfl rfl rfl (by kernel_rfl) Try.func7 (by kernel_rfl)
    (of_decide_eq_true (by kernel_rfl)) (by unfold Func.isWrapper; first | (rw [if_pos (by decide +kernel)]; kernel_rfl) | (rw [if_neg (by decide +kernel)]; exact ⟨rfl, rfl⟩))
    (fun os started H enc _ => lifted os started H enc)
#print axioms proved
end Go.Proofs.Ytbahnkomdndmkaa.bounds
