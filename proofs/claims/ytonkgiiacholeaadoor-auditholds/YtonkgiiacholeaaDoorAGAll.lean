/- Lists that come in; digests that come in; sides; the reference's Proves; regions that store where they load; leadBoth; Grows; the reference's way. -/
import Derived.Test.YtonkgiiacholeaaDoorAProof
import Derived.Test.YtonkgiiacholeaaDoorAAw
import Derived.Deep.MidRow
import Derived.StillTail
import Derived.Deep.RegionHeld
namespace Go.Proofs.YtonkgiiacholeaaDoor
set_option linter.unusedVariables false
set_option linter.unusedSimpArgs false
open Go.ChangeShapes Go.WideShapes Go.ChangeAt Go.RowKit Go.Joins

theorem ll_shape {w : World} {v : Value} {P : List (Value × List Nat)} (h : LL w v P) : ∃ a c, v = .slice a P.length c ∧ P.length ≤ c := by
  obtain ⟨a, c, h1, h2, _⟩ := h
  exact ⟨a, c, h1, h2.1⟩
/-- what short tells -/
def ShR (P : List (Value × List Nat)) (n : Nat) (w : World) (e : Ending) (w' : World) : Prop := ∃ b, e = .returned (.bool b) ∧ w = w' ∧ (b = true → n ≤ 40 ∧ ∀ x ∈ P, x.2.length ≤ 4096)
theorem ShR.no (P : List (Value × List Nat)) (n : Nat) (w : World) : ShR P n w (.returned (.bool false)) w := ⟨false, rfl, rfl, fun h => nomatch h⟩
theorem ShR.yes {P : List (Value × List Nat)} {n : Nat} (w : World) (h : n ≤ 40 ∧ ∀ x ∈ P, x.2.length ≤ 4096) : ShR P n w (.returned (.bool true)) w := ⟨true, rfl, rfl, fun _ => h⟩
def ShI (P : List (Value × List Nat)) (n : Nat) (w : World) (s i : Value) (wr : World) : Prop := ∃ (j N : Nat), s = .int .i64 (N : Int) ∧ i = .int .i64 (j : Int) ∧ j ≤ n ∧ j ≤ 41 ∧ N ≤ 4097 * j ∧ Hid (∀ x ∈ P.take j, min x.2.length 4097 ≤ N) ∧ w = wr
set_option maxRecDepth 100000 in
set_option maxHeartbeats 8000000 in
theorem short_any (P : List (Value × List Nat)) (a : Option Addr) (n c : Nat) (w : World) (hn : P.length = n) (hL : LL w (.slice a n c) P) :
    Calls Tryd.prog 20 #[.slice a n c] w fun e w' => ShR P n w e w' := by
  have HL := hide hL
  have HN := hide hn
  clear hL hn
  go_enter Tryd.func20, Tryd.ntmps20
  go_wp2_with fail
  go_loopw [3, 4] (fun s i wr => ShI P n w s i wr) (fun s i _ => (41 - intOf i).toNat)
  case atStart => exact ⟨0, 0, by simp, by simp, by omega, by omega, by omega, hide (by simp), rfl⟩
  case round =>
    obtain ⟨j, M, rfl, rfl, hj, hj2, hM, HI, rfl⟩ := hrel
    have mI : (M : Int) ≤ 167977 := by omega
    have jI : (j : Int) ≤ 41 := by omega
    by_cases hgo : j < n ∧ j ≤ 40 ∧ M ≤ 4096
    · obtain ⟨g1, g2, g3⟩ := hgo
      have i1 : (j : Int) < (n : Int) := by omega
      have i2 : (j : Int) ≤ 40 := by omega
      have i3 : (M : Int) ≤ 4096 := by omega
      obtain ⟨x, hx⟩ : ∃ x, P[j]? = some x := ⟨_, List.getElem?_eq_getElem (by have := unhide HN; omega)⟩
      obtain ⟨a', c', hv, hc, hcell⟩ := unhide HL
      obtain ⟨⟨b, hb, hcb⟩, hY⟩ := hcell j x.1 x.2 hx
      obtain ⟨ha', -, -⟩ : a = a' ∧ n = P.length ∧ c = c' := by simpa using hv
      subst ha'
      subst hb
      obtain ⟨xa, xc, hxv⟩ : ∃ a cap, x.1 = .slice a x.2.length cap := by
        rcases hY with ⟨h1, h2⟩ | ⟨a, cap, h1, _⟩
        · exact ⟨none, 0, by rw [h1, h2]; rfl⟩
        · exact ⟨_, _, h1⟩
      rw [hxv] at hcb
      obtain ⟨m, hm⟩ : ∃ m, x.2.length = m := ⟨_, rfl⟩
      rw [hm] at hcb
      obtain ⟨u, hu⟩ : ∃ u : Nat, min m 4097 = u := ⟨_, rfl⟩
      have huI : min (m : Int) 4097 = (u : Int) := by omega
      have u1 : (u : Int) ≤ 4097 := by omega
      have HNX : Hid (∀ y ∈ P.take (j + 1), min y.2.length 4097 ≤ M + u) := hide (fun y hy => by
        rw [List.take_add_one, hx] at hy
        rcases List.mem_append.1 hy with hy | hy
        · have := unhide HI y hy; omega
        · obtain rfl : y = x := by simpa using hy
          rw [hm]; omega)
      have HU := hide hu
      clear hu hm hY hv hcell hc hxv hx
      go_wp2_with fail
      go_roundw
      case rel =>
        exact ⟨j + 1, M + u, congrArg (Value.int IntKind.i64) (by omega), congrArg (Value.int IntKind.i64) (by omega), by omega, by omega, by omega, HNX, rfl⟩
      case measure => simp [intOf]; omega
    · have HG := hide hgo
      by_cases c1 : j < n
      · by_cases c2 : j ≤ 40
        · have i1 : (j : Int) < (n : Int) := by omega
          have i2 : (j : Int) ≤ 40 := by omega
          have i3 : ¬ (M : Int) ≤ 4096 := by omega
          clear hgo
          go_wp2_with fail
          all_goals go_ret
          all_goals exact ShR.no _ _ _
        · have i1 : (j : Int) < (n : Int) := by omega
          have i2 : ¬ (j : Int) ≤ 40 := by omega
          have i3 : ¬ (n : Int) ≤ 40 := by omega
          clear hgo
          go_wp2_with fail
          all_goals go_ret
          all_goals exact ShR.no _ _ _
      · have i1 : ¬ (j : Int) < (n : Int) := by omega
        clear hgo
        by_cases c2 : n ≤ 40 ∧ M ≤ 4096
        · obtain ⟨c2, c3⟩ := c2
          have i2 : (n : Int) ≤ 40 := by omega
          have i3 : (M : Int) ≤ 4096 := by omega
          have HF : Hid (n ≤ 40 ∧ ∀ x ∈ P, x.2.length ≤ 4096) := hide ⟨c2, fun x hx => by
            have := unhide HI x (by rw [List.take_of_length_le (by have := unhide HN; omega)]; exact hx)
            omega⟩
          go_wp2_with fail
          go_ret
          exact ShR.yes _ (unhide HF)
        · by_cases c3 : n ≤ 40
          · have i2 : (n : Int) ≤ 40 := by omega
            have i3 : ¬ (M : Int) ≤ 4096 := by omega
            go_wp2_with fail
            go_ret
            exact ShR.no _ _ _
          · have i2 : ¬ (n : Int) ≤ 40 := by omega
            go_wp2_with fail
            go_ret
            exact ShR.no _ _ _
end Go.Proofs.YtonkgiiacholeaaDoor

namespace Go.Proofs.YtonkgiiacholeaaDoor
set_option linter.unusedVariables false
set_option maxRecDepth 100000
set_option linter.unusedSimpArgs false
open Go.ChangeShapes Go.WideShapes Go.ChangeAt Go.RowKit Go.Joins Go.Deep

theorem bytes_of {H : Type} {enc : TypeId × Value → H} {W : World} {base fuel : Nat} {spare : Nat → Bool} {held : Bool} {v : Value} {x : DataW H × List MemPlace}
    (hf : DataW.trod enc Tryd.prog W base spare held fuel 22 [v] = some x) : ∃ l : List Nat, Byt W v l ∧ ∀ y ∈ l, y < 256 := by
  rcases open_ints Tryd.underlying22 Tryd.underlying5 cells5 hf with ⟨hcs, _⟩ | ⟨a, n, cap, zs, hcs, _, hl, hm, hz, _, hc, hw⟩
  · simp at hcs
    subst hcs
    exact ⟨[], .inl ⟨rfl, rfl⟩, fun y hy => by cases hy⟩
  · simp at hcs
    subst hcs
    have hlz : n ≤ zs.length := by rw [hz]; split <;> omega
    have hb : ∀ z ∈ zs, 0 ≤ z ∧ z < 256 := fun z hz' => by
      have := bounds_u8 (hw z hz')
      omega
    refine ⟨(zs.take n).map Int.toNat, .inr ⟨a, cap, by simp [Nat.min_eq_left hlz], by simp [Nat.min_eq_left hlz]; exact hl, hm, fun i y hy => ?_⟩, fun y hy => ?_⟩
    · rw [List.getElem?_map] at hy
      obtain ⟨z, hz1, rfl⟩ := Option.map_eq_some_iff.1 hy
      have hi : i < n := by
        by_cases hi : i < n
        · exact hi
        · rw [List.getElem?_eq_none (by rw [List.length_take]; omega)] at hz1; cases hz1
      rw [List.getElem?_take_of_lt hi] at hz1
      rw [hc i (by omega), List.getD_eq_getElem?_getD, hz1]
      have := hb z (List.mem_of_getElem? hz1)
      simp
      omega
    · obtain ⟨z, hz1, rfl⟩ := List.mem_map.1 hy
      have := hb z (List.mem_of_mem_take hz1)
      omega

theorem open_lists {H : Type} {enc : TypeId × Value → H} {W : World} {b0 base : Nat} {spare : Nat → Bool} {held : Bool} {v : Value} {d : DataW H} {p : List MemPlace}
    (hv : Value.okWide Tryd.prog W .any b0 35 v) (h : DataW.Trod enc Tryd.prog W base spare held 35 v d p) :
    ∃ P : List (Value × List Nat), LL W v P ∧ (∀ x ∈ P, U8 x.2) ∧ (P = [] ∨ ∃ elems sp, d = .slice elems sp ∧ P.length ≤ elems.length + sp.length) := by
  obtain ⟨a, n, c, rfl⟩ := okWide_slice Tryd.underlying35 hv
  obtain ⟨fuel, hf⟩ := h
  rcases open_slice Tryd.underlying35 hf with h0 | ⟨a, len, cap, m, n', D, Pl, hcs, hb, hl, hm, hmm, hdd, hx⟩
  · have hcs := h0.1
    simp [Value.cells] at hcs
    obtain ⟨rfl, rfl, rfl⟩ := hcs
    exact ⟨[], ⟨none, 0, rfl, ⟨Nat.le_refl _, Nat.zero_le _⟩, fun i u l hi => by simp at hi⟩, (fun x hx => by cases hx), .inl rfl⟩
  · simp [Value.cells] at hcs
    obtain ⟨rfl, rfl, rfl⟩ := hcs
    have hlm : n ≤ m := by rw [hmm]; split <;> omega
    have each : ∀ i, i < n → ∃ q : Value × List Nat, (Byt W q.1 q.2 ∧ ∀ y ∈ q.2, y < 256) ∧ W.cell? (a.add i) = some q.1 := by
      intro i hi
      obtain ⟨cs', h1, h2⟩ := hx i (by omega)
      rw [show Tryd.prog.cellsOf 22 = 1 by kernel_rfl] at h1
      obtain ⟨_, hlen, hcell⟩ := World.cells?_some h1
      match cs', hlen with
      | [v0], _ =>
        obtain ⟨l, hbyt, h256⟩ := bytes_of h2
        have e0 := hcell 0 (by omega)
        rw [Go.Proofs.YtonkgiiacholeaaDoor.add_add] at e0
        exact ⟨(v0, l), ⟨hbyt, h256⟩, by simpa using e0⟩
    obtain ⟨L, hL, hp⟩ := list_of each
    refine ⟨L, ⟨some a, c, by rw [hL], ⟨by rw [hL]; exact hl, hm⟩, fun i u l hi => ⟨⟨a, rfl, (hp i (u, l) hi).2⟩, (hp i (u, l) hi).1.1⟩⟩, fun x hx => ?_, ?_⟩
    · obtain ⟨i, hi⟩ := List.getElem?_of_mem hx
      exact (hp i x hi).1.2
    · right
      injection hdd with hq _
      exact ⟨_, _, hq, by simp [hL]⟩

theorem mod_nat (k : Int) (n : Nat) (h : 0 < n) (h2 : n ≤ 1000000) : ∃ j : Nat, wrap64 ((IntKind.u64.wrap k).tmod (n : Int)) = (j : Int) ∧ j < n := by
  have h0 : 0 ≤ IntKind.u64.wrap k := wrap_u64_nonneg k
  rw [Int.tmod_eq_emod_of_nonneg h0]
  have g1 := Int.emod_nonneg (IntKind.u64.wrap k) (show (n : Int) ≠ 0 by omega)
  have g2 := Int.emod_lt_of_pos (IntKind.u64.wrap k) (show (0 : Int) < (n : Int) by omega)
  generalize IntKind.u64.wrap k % (n : Int) = x at *
  refine ⟨x.toNat, ?_, by omega⟩
  unfold wrap64
  omega

theorem bl_pred_half {n : Nat} (h : 2 ≤ n) : bl (half n - 1) + 1 ≤ bl (n - 1) := by
  have hp : 1 ≤ half n := half_pos n
  have hlt := half_lt h
  have h1 : half n = 2 ^ (n - 1).log2 := rfl
  have h2 : bl (n - 1) = (n - 1).log2 + 1 := by rw [bl, if_neg (by omega)]
  have h3 : bl (half n - 1) ≤ (n - 1).log2 := bl_le.2 (by rw [← h1]; omega)
  omega
theorem bl_pred_rest {n : Nat} (h : 2 ≤ n) : bl (n - half n - 1) + 1 ≤ bl (n - 1) :=
  Nat.le_trans (Nat.add_le_add_right (bl_mono (by have := half_ge h; omega)) 1) (bl_pred_half h)
theorem prove_bl : ∀ (n : Nat) (X : List (List Nat)) (i : Nat), X.length = n → (proveL X i).length ≤ bl (n - 1) := by
  intro n
  induction n using Nat.strongRecOn with
  | _ n ih =>
  intro X i hX
  by_cases h2 : 2 ≤ X.length
  · have hh := half_lt h2
    have hp := half_pos X.length
    have e1 := bl_pred_half h2
    have e2 := bl_pred_rest h2
    by_cases hi : i < half X.length
    · rw [proveL_low h2 hi, List.length_append, List.length_singleton]
      have := ih (half X.length) (by omega) (X.take (half X.length)) i (by rw [List.length_take]; omega)
      rw [← hX]
      omega
    · rw [proveL_high h2 hi, List.length_append, List.length_singleton]
      have := ih (X.length - half X.length) (by omega) (X.drop (half X.length)) (i - half X.length) (by rw [List.length_drop])
      rw [← hX]
      omega
  · rw [proveL_one h2]; exact Nat.zero_le _
theorem grown_bl : ∀ (n : Nat) (X : List (List Nat)) (m : Nat) (b : Bool), X.length = n → (grownL X m b).length ≤ bl (n - 1) + 1 := by
  intro n
  induction n using Nat.strongRecOn with
  | _ n ih =>
  intro X m b hX
  by_cases h1 : m = X.length
  · rw [grownL_all h1]
    cases b
    · exact Nat.le_add_left _ _
    · exact Nat.zero_le _
  by_cases h2 : 2 ≤ X.length
  · have hh := half_lt h2
    have hp := half_pos X.length
    have e1 := bl_pred_half h2
    have e2 := bl_pred_rest h2
    by_cases hi : m ≤ half X.length
    · rw [grownL_low h1 h2 hi, List.length_append, List.length_singleton]
      have := ih (half X.length) (by omega) (X.take (half X.length)) m b (by rw [List.length_take]; omega)
      rw [← hX]
      omega
    · rw [grownL_high h1 h2 hi, List.length_append, List.length_singleton]
      have := ih (X.length - half X.length) (by omega) (X.drop (half X.length)) (m - half X.length) false (by rw [List.length_drop])
      rw [← hX]
      omega
  · rw [grownL, if_neg h1, dif_neg h2]; exact Nat.zero_le _
theorem bl_half {k : Nat} (h : 0 < k) : bl k = bl (k / 2) + 1 := by
  apply Nat.le_antisymm
  · rw [bl_le, Nat.pow_succ]
    have := (bl_le (n := k / 2) (k := bl (k / 2))).1 (Nat.le_refl _)
    omega
  · rw [Nat.succ_le_iff, lt_bl]
    by_cases h0 : k / 2 = 0
    · rw [h0]
      have : bl 0 = 0 := rfl
      rw [this]; exact h
    · have h1 : bl (k / 2) - 1 < bl (k / 2) := by
        have : 0 < bl (k / 2) := lt_bl.2 (by omega)
        omega
      have h2 := lt_bl.1 h1
      have h3 : 2 ^ bl (k / 2) = 2 ^ (bl (k / 2) - 1) * 2 := by rw [← Nat.pow_succ]; congr 1; omega
      rw [h3]
      omega
end Go.Proofs.YtonkgiiacholeaaDoor

namespace Go.Proofs.YtonkgiiacholeaaDoor
set_option linter.unusedVariables false
set_option maxRecDepth 100000
set_option linter.unusedSimpArgs false
open Go.ChangeShapes Go.WideShapes Go.ChangeAt Go.RowKit Go.Joins Go.Deep

theorem cells43 : Tryd.prog.cellsOf 43 = 32 := by kernel_rfl
theorem u8_of {H : Type} {enc : TypeId × Value → H} {W : World} {base fuel : Nat} {spare : Nat → Bool} {held : Bool} {cs : List Value} {x : DataW H × List MemPlace}
    (hf : DataW.trod enc Tryd.prog W base spare held fuel 5 cs = some x) : ∃ z : Nat, cs = [.int .u8 (z : Int)] ∧ z < 256 := by
  obtain ⟨n, h, _, hw⟩ := DataW.trod_int Tryd.underlying5 hf
  have := bounds_u8 hw
  refine ⟨n.toNat, ?_, by omega⟩
  rw [h, Int.toNat_of_nonneg (by omega)]
theorem sum_of {H : Type} {enc : TypeId × Value → H} {W : World} {base fuel : Nat} {spare : Nat → Bool} {held : Bool} {cs : List Value} {x : DataW H × List MemPlace}
    (hf : DataW.trod enc Tryd.prog W base spare held fuel 43 cs = some x) : ∃ R : List Nat, cs = bv R ∧ R.length = 32 ∧ U8 R := by
  cases fuel with
  | zero => simp [DataW.trod] at hf
  | succ fuel =>
    have h := hf
    simp only [DataW.trod, Tryd.underlying43, cells5] at h
    split at h
    · rename_i hl
      have hlen : cs.length = 32 := by simpa [cells43] using hl
      obtain ⟨xs, hm, hx⟩ := Option.map_eq_some_iff.1 h
      subst hx
      have each : ∀ i, i < 32 → ∃ z : Nat, cs[i]? = some (.int .u8 (z : Int)) ∧ z < 256 := by
        intro i hi
        obtain ⟨f2, d2, q2, k2, t2⟩ := Lib.array_elem Tryd.underlying43 hf i hi
        rw [cells5, Nat.mul_one] at t2
        obtain ⟨z, hz, h256⟩ := u8_of t2
        refine ⟨z, ?_, h256⟩
        have := congrArg (fun l => l[0]?) hz
        simpa using this
      obtain ⟨R, hR, hp⟩ := list_of each
      refine ⟨R, ?_, hR, fun y hy => ?_⟩
      · apply List.ext_getElem?
        intro i
        by_cases hi : i < 32
        · have hr : R[i]? = some R[i] := List.getElem?_eq_getElem (by omega)
          rw [(hp i _ hr).1]
          simp [bv, hr]
        · rw [List.getElem?_eq_none (by omega), List.getElem?_eq_none (by rw [bv_len]; omega)]
      · obtain ⟨i, hi⟩ := List.getElem?_of_mem hy
        exact (hp i y hi).2
    · cases h
theorem open_sum {H : Type} {enc : TypeId × Value → H} {W : World} {b0 base : Nat} {spare : Nat → Bool} {held : Bool} {v : Value} {d : DataW H} {p : List MemPlace}
    (hv : Value.okWide Tryd.prog W .any b0 43 v) (h : DataW.Trod enc Tryd.prog W base spare held 43 v d p) : ∃ R : List Nat, v = .agg (bv R).toArray ∧ R.length = 32 ∧ U8 R := by
  obtain ⟨fuel, hf⟩ := h
  obtain ⟨R, hc, hl, h8⟩ := sum_of hf
  refine ⟨R, ?_, hl, h8⟩
  have hs : v.cells.size = 32 := by
    have := congrArg List.length hc
    rw [bv_len, hl] at this
    simpa using this
  have hc' : v.cells = (bv R).toArray := by
    rw [← hc]
  cases v <;> simp [Value.cells] at hs hc' ⊢
  exact hc'
theorem okWide_spot {P : Program} {w : World} {r : Reach} {b0 n c : Nat} {t e : TypeId} {a : Addr} (ht : P.underlying t = some (.slice e)) (h : Value.okWide P w r b0 t (.slice (some a) n c)) : a.spot = none := by
  simp only [Value.okWide, ht, Cell.okWide, Cell.ok, World.has] at h
  exact h.2.2.2.1
theorem open_sums {H : Type} {enc : TypeId × Value → H} {W : World} {b0 base : Nat} {spare : Nat → Bool} {held : Bool} {v : Value} {d : DataW H} {p : List MemPlace}
    (hv : Value.okWide Tryd.prog W .any b0 54 v) (h : DataW.Trod enc Tryd.prog W base spare held 54 v d p) :
    ∃ (P : List (List Nat)) (a : Option Addr) (c : Nat), v = .slice a P.length c ∧ (P.length ≤ 1000000 → PS W v P) := by
  obtain ⟨a, n, c, rfl⟩ := okWide_slice Tryd.underlying54 hv
  obtain ⟨fuel, hf⟩ := h
  rcases open_slice Tryd.underlying54 hf with h0 | ⟨a, len, cap, m, n', D, Pl, hcs, hb, hl, hm, hmm, hdd, hx⟩
  · have hcs := h0.1
    simp [Value.cells] at hcs
    obtain ⟨rfl, rfl, rfl⟩ := hcs
    exact ⟨[], none, 0, rfl, fun _ => ⟨none, 0, rfl, Nat.le_refl _, Nat.zero_le _, (fun s hs => by cases hs), .inl rfl⟩⟩
  · simp [Value.cells] at hcs
    obtain ⟨rfl, rfl, rfl⟩ := hcs
    have hsp := okWide_spot Tryd.underlying54 hv
    have hlm : n ≤ m := by rw [hmm]; split <;> omega
    obtain ⟨g, o, s⟩ := a
    simp only at hsp
    subst hsp
    have each : ∀ i, i < n → ∃ R : List Nat, (R.length = 32 ∧ U8 R) ∧ W.rangeAt g (o + i * 32) (bv R) := by
      intro i hi
      obtain ⟨cs', h1, h2⟩ := hx i (by omega)
      rw [cells43] at h1
      obtain ⟨_, hlen, hcell⟩ := World.cells?_some h1
      obtain ⟨R, hc, hR, h8⟩ := sum_of h2
      refine ⟨R, ⟨hR, h8⟩, fun j u hj => ?_⟩
      have hj32 : j < 32 := by
        have := (List.getElem?_eq_some_iff.1 hj).1
        rw [bv_len, hR] at this
        exact this
      have := hcell j hj32
      rw [hc, hj, add_plain, add_plain] at this
      exact this
    obtain ⟨L, hL, hp⟩ := list_of each
    refine ⟨L, some ⟨g, o, none⟩, c, by rw [hL], fun hb => ⟨some ⟨g, o, none⟩, c, by rw [hL], by rw [hL]; exact hl, hb, fun s hs => ?_, .inr ⟨g, o, rfl, rfl, fun i s hs => ⟨(hp i s hs).1.1, (hp i s hs).1.2, (hp i s hs).2⟩⟩⟩⟩
    obtain ⟨i, hi⟩ := List.getElem?_of_mem hs
    exact (hp i s hi).1
end Go.Proofs.YtonkgiiacholeaaDoor

namespace Go.Proofs.YtonkgiiacholeaaDoor
set_option linter.unusedVariables false
set_option linter.unusedSimpArgs false
open Go.ChangeShapes Go.WideShapes Go.ChangeAt Go.RowKit Go.Joins

def sidesL (i n : Nat) : List Bool :=
  if h : 2 ≤ n then if i < half n then sidesL i (half n) ++ [false] else sidesL (i - half n) (n - half n) ++ [true] else []
termination_by n
decreasing_by
  all_goals (have h1 := half_lt h; have h2 := half_pos n; omega)
theorem sidesL_one {i n : Nat} (h : ¬ 2 ≤ n) : sidesL i n = [] := by rw [sidesL, dif_neg h]
theorem sidesL_low {i n : Nat} (h : 2 ≤ n) (hi : i < half n) : sidesL i n = sidesL i (half n) ++ [false] := by rw [sidesL, dif_pos h, if_pos hi]
theorem sidesL_high {i n : Nat} (h : 2 ≤ n) (hi : ¬ i < half n) : sidesL i n = sidesL (i - half n) (n - half n) ++ [true] := by rw [sidesL, dif_pos h, if_neg hi]
theorem sides_bl : ∀ (n i : Nat), (sidesL i n).length ≤ bl (n - 1) := by
  intro n
  induction n using Nat.strongRecOn with
  | _ n ih =>
  intro i
  by_cases h2 : 2 ≤ n
  · have hh := half_lt h2
    have hp := half_pos n
    have e1 := bl_pred_half h2
    have e2 := bl_pred_rest h2
    by_cases hi : i < half n
    · rw [sidesL_low h2 hi, List.length_append, List.length_singleton]
      have := ih (half n) (by omega) i
      omega
    · rw [sidesL_high h2 hi, List.length_append, List.length_singleton]
      have := ih (n - half n) (by omega) (i - half n)
      omega
  · rw [sidesL_one h2]; exact Nat.zero_le _
theorem sides_40 (n i : Nat) (hn : n ≤ 1099511627776) : (sidesL i n).length ≤ 40 := by
  refine Nat.le_trans (sides_bl n i) (bl_le.2 ?_)
  have : (2 : Nat) ^ 40 = 1099511627776 := by decide
  omega
/-- one step up -/
def upS (s : List Nat) (b : Bool) (p : List Nat) : List Nat := if b then knotL p s else knotL s p
theorem upS_len (s : List Nat) (b : Bool) (p : List Nat) : (upS s b p).length = 32 := by unfold upS; split <;> exact knotL_len _ _
theorem upS_8 (s : List Nat) (b : Bool) (p : List Nat) : U8 (upS s b p) := by unfold upS; split <;> exact knotL_8 _ _
/-- where digests lead, from the bottom up -/
def upL (s : List Nat) (S : List Bool) (P : List (List Nat)) : List Nat := (S.zip P).foldl (fun s x => upS s x.1 x.2) s
theorem upL_snoc {s : List Nat} {S : List Bool} {P : List (List Nat)} {b : Bool} {y : List Nat} (h : S.length = P.length) : upL s (S ++ [b]) (P ++ [y]) = upS (upL s S P) b y := by
  unfold upL
  rw [List.zip_append h, List.foldl_append]
  rfl
theorem upL_ok {s : List Nat} (hs : s.length = 32) (h8 : U8 s) : ∀ (S : List Bool) (P : List (List Nat)), (upL s S P).length = 32 ∧ U8 (upL s S P) := by
  intro S
  induction S generalizing s with
  | nil => intro P; exact ⟨hs, h8⟩
  | cons b S ih =>
    intro P
    cases P with
    | nil => exact ⟨hs, h8⟩
    | cons p P => exact ih (upS_len s b p) (upS_8 s b p) P
theorem upL_take {s : List Nat} {S : List Bool} {P : List (List Nat)} {k : Nat} {b : Bool} {p : List Nat} (hb : S[k]? = some b) (hp : P[k]? = some p) : upL s (S.take (k + 1)) (P.take (k + 1)) = upS (upL s (S.take k) (P.take k)) b p := by
  have h1 := (List.getElem?_eq_some_iff.1 hb).1
  have h2 := (List.getElem?_eq_some_iff.1 hp).1
  rw [List.take_add_one, List.take_add_one, hb, hp]
  exact upL_snoc (by rw [List.length_take, List.length_take]; omega)
theorem lead_sides (s : List Nat) : ∀ (n i : Nat) (P : List (List Nat)), ((leadL s i n P).2 = true ↔ P.length = (sidesL i n).length) ∧ (P.length = (sidesL i n).length → (leadL s i n P).1 = upL s (sidesL i n) P) := by
  intro n
  induction n using Nat.strongRecOn with
  | _ n ih =>
  intro i P
  by_cases h2 : 2 ≤ n
  · have hh := half_lt h2
    have hp := half_pos n
    cases hl : P.getLast? with
    | none =>
      obtain rfl := List.getLast?_eq_none_iff.1 hl
      rw [leadL_none h2]
      have : 0 < (sidesL i n).length := by
        by_cases hi : i < half n
        · rw [sidesL_low h2 hi]; simp
        · rw [sidesL_high h2 hi]; simp
      constructor
      · simp; omega
      · intro h; simp at h; omega
    | some y =>
      have hP : P = P.dropLast ++ [y] := by
        have hne : P ≠ [] := fun e => by subst e; cases hl
        have := List.dropLast_concat_getLast hne
        rw [List.getLast?_eq_some_getLast hne] at hl
        rw [Option.some.inj hl] at this
        exact this.symm
      have hPl : P.length = P.dropLast.length + 1 := by have := congrArg List.length hP; rw [List.length_append, List.length_singleton] at this; exact this
      by_cases hi : i < half n
      · obtain ⟨i1, i2⟩ := ih (half n) hh i P.dropLast
        rw [leadL_low h2 hl hi, sidesL_low h2 hi, List.length_append, List.length_singleton]
        refine ⟨?_, fun h => ?_⟩
        · rw [i1]; omega
        · have h' : P.dropLast.length = (sidesL i (half n)).length := by omega
          conv => rhs; rw [hP]
          rw [upL_snoc h'.symm, ← i2 h']
          rfl
      · obtain ⟨i1, i2⟩ := ih (n - half n) (by omega) (i - half n) P.dropLast
        rw [leadL_high h2 hl hi, sidesL_high h2 hi, List.length_append, List.length_singleton]
        refine ⟨?_, fun h => ?_⟩
        · rw [i1]; omega
        · have h' : P.dropLast.length = (sidesL (i - half n) (n - half n)).length := by omega
          conv => rhs; rw [hP]
          rw [upL_snoc h'.symm, ← i2 h']
          rfl
  · rw [leadL_one h2, sidesL_one h2]
    exact ⟨by cases P <;> simp, fun _ => rfl⟩
theorem provesE_sides (d : List Nat) (i n : Nat) (P : List (List Nat)) (R : List Nat) : provesE d i n P R = if P.length = (sidesL i n).length ∧ upL (leafL d) (sidesL i n) P = R then 0 else 140 := by
  obtain ⟨h1, h2⟩ := lead_sides (leafL d) n i P
  unfold provesE
  by_cases h : P.length = (sidesL i n).length
  · rw [h2 h]
    simp [h1.2 h, h]
  · have : ¬ (leadL (leafL d) i n P).2 = true := fun e => h (h1.1 e)
    simp [this, h]

/-- bools in a slice of one's own -/
def bbv (S : List Bool) : List Value := S.map Value.bool
def Bls (w : World) (B : Nat) (v : Value) (S : List Bool) : Prop := w.ownsRow B 4 1 v S.length (bbv S)
theorem Bls.nil (w : World) (B : Nat) : Bls w B (.slice none 0 0) [] := World.ownsRow_nil w B 4 1
theorem Bls.call {w w' : World} {B : Nat} {v : Value} {L : List Bool} (h : Bls w B v L) (hb : Below w.heap.size w w') : Bls w' B v L :=
  own_only h (Only.of_below (p := fun _ => False) hb) (fun _ _ h => h)
theorem info4 : (Tryd.prog.info? 4).map (fun i => (i.zero, i.size, i.bytes)) = some (some (.bool false), 1, 1) := by kernel_rfl
theorem wpList_append_bool {ops : Array Oper} {rest : List Oper} {o : Oper} {a : Act} {Q : Exit → Act → World → Prop} {W : World} (hgd : o.guard = none) (s x : Operand)
    (ho : o.op = .call { callee := .builtin .append, args := #[s, x], argTypes := #[98, 98] }) (B : Nat) (v : Value) (L : List Bool) (b : Bool)
    (hs : a.eval s = v) (hv : Bls W B v L) (hL : L.length ≤ 1000) (hB : B ≤ W.heap.size) (hx : a.eval x = .slice (some ⟨W.heap.size, 0, none⟩) 1 1)
    (h : ∀ v' w', Bls w' B v' (L ++ [b]) → Below B W w' → wpList Tryd.prog ops Q rest (a.put o.dst v') w') : wpList Tryd.prog ops Q (o :: rest) a (W.alloc (.cells #[.bool b] 4)) := by
  obtain ⟨i4, hi4, hz4, hs4, hb4⟩ := info_parts info4
  have hzz : (Value.bool false).cells.size = 1 := by simp [Value.cells]
  have nw : ∀ k u, ([Value.bool b] : List Value)[k]? = some u → (W.alloc (.cells #[.bool b] 4)).cell? ((⟨W.heap.size, 0, none⟩ : Addr).add k) = some u := by
    intro k u hk
    rw [add_plain, Nat.zero_add, (RowAt.new W 4 [Value.bool b]).cell]
    exact hk
  have hv1 : (W.alloc (.cells #[.bool b] 4)).ownsRow B 4 1 v L.length (bbv L) := World.ownsRow.alloc hv _
  refine wpList_append_lies _ hgd s x 98 ho B 4 i4 (.bool false) 1 1 Tryd.underlying98 hi4 hz4 hs4 hb4 hzz (by decide) v L.length (bbv L) hs hv1 ⟨W.heap.size, 0, none⟩ 1 1 [.bool b] hx rfl nw (fun u hu => by obtain rfl := List.mem_singleton.1 hu; rfl) (by decide) (by unfold maxLen; omega) (by omega) (by rw [size_alloc]; omega) (W.heap.size + 1) (size_alloc _ _) ?_
  intro g cap w' own grow lies lt
  refine h _ w' ?_ ?_
  · unfold Bls bbv
    rw [List.length_append, List.map_append]
    exact own
  · exact ((Below.refl B W).alloc hB _).trans ((grown_only grow).below (by rw [size_alloc]; omega) (fun k hk => (hv1.lt k hk).1))
set_option maxRecDepth 100000 in
set_option maxHeartbeats 8000000 in
theorem rsides_any : ∀ (n i : Nat) (w : World), 1 ≤ n → n ≤ 1099511627776 → i < n →
    Calls Tryd.prog 63 #[.int .i64 (i : Int), .int .i64 (n : Int)] w fun e w' => ∃ v, e = .returned v ∧ Below w.heap.size w w' ∧ Bls w' w.heap.size v (sidesL i n) := by
  intro n
  induction n using Nat.strongRecOn with
  | _ n ih =>
  intro i w h0 hN hi
  by_cases h1 : n = 1
  · subst h1
    rw [sidesL_one (by decide)]
    clear ih hi hN
    go_enter Tryd.func63, Tryd.ntmps63
    go_wp2_with fail
    go_ret
    exact ⟨_, rfl, Below.refl _ _, Bls.nil _ _⟩
  have h2 : 2 ≤ n := by omega
  have hh := half_lt h2
  have hhp := half_pos n
  have HHF := hide (fun w => rhalf_any n w h2 (by omega))
  have n1 : ((n : Int) == 1) = false := beq_eq_false_iff_ne.2 (by omega)
  by_cases hik : i < half n
  · have HI1 := hide (ih (half n) hh i w hhp (by omega) hik)
    rw [sidesL_low h2 hik]
    have hl := sides_40 (half n) i (by omega)
    obtain ⟨S, hS⟩ : ∃ S, sidesL i (half n) = S := ⟨_, rfl⟩
    rw [hS] at HI1 hl ⊢
    obtain ⟨k, hk⟩ : ∃ k, half n = k := ⟨_, rfl⟩
    rw [hk] at HHF HI1 hh hhp hik
    have ik : (i : Int) < (k : Int) := by omega
    clear ih hi h1 h2 hh hhp hik hk hS hN h0
    go_enter Tryd.func63, Tryd.ntmps63
    go_wp2_with fail
    refine Calls.mono (unhide HHF _) ?_
    rintro e w2 ⟨rfl, rfl⟩
    go_wp2_with fail
    refine Calls.mono (unhide HI1) ?_
    rintro e w3 ⟨v, rfl, b3, S3⟩
    have HB3 := hide b3
    have HS3 := hide S3
    clear b3 S3 HI1
    go_wp2_with (refine wpList_append_bool rfl _ _ rfl w.heap.size v S false rfl (unhide HS3) (by omega) (unhide HB3).size rfl (fun v' w' hv' hb' => ?_); have HV' := hide hv'; have HB' := hide hb'; clear hv' hb')
    go_ret
    exact ⟨_, rfl, (unhide HB3).trans (unhide HB'), unhide HV'⟩
  · have HI1 := hide (ih (n - half n) (by omega) (i - half n) w (by omega) (by omega) (by omega))
    rw [sidesL_high h2 hik]
    have hl := sides_40 (n - half n) (i - half n) (by omega)
    obtain ⟨S, hS⟩ : ∃ S, sidesL (i - half n) (n - half n) = S := ⟨_, rfl⟩
    rw [hS] at HI1 hl ⊢
    obtain ⟨k, hk⟩ : ∃ k, half n = k := ⟨_, rfl⟩
    rw [hk] at HHF HI1 hh hhp hik
    have e2 : ((n - k : Nat) : Int) = (n : Int) - (k : Int) := by omega
    have e3 : ((i - k : Nat) : Int) = (i : Int) - (k : Int) := by omega
    rw [e2, e3] at HI1
    have ik : ¬ (i : Int) < (k : Int) := by omega
    have nI : (n : Int) ≤ 1099511627776 := by omega
    have kI : (k : Int) < (n : Int) := by omega
    have k1 : (1 : Int) ≤ (k : Int) := by omega
    have iI : (i : Int) < (n : Int) := by omega
    clear ih hi h1 h2 hh hhp hik hk hS hN h0 e2 e3
    go_enter Tryd.func63, Tryd.ntmps63
    go_wp2_with fail
    refine Calls.mono (unhide HHF _) ?_
    rintro e w2 ⟨rfl, rfl⟩
    go_wp2_with fail
    refine Calls.mono (unhide HI1) ?_
    rintro e w3 ⟨v, rfl, b3, S3⟩
    have HB3 := hide b3
    have HS3 := hide S3
    clear b3 S3 HI1
    go_wp2_with (refine wpList_append_bool rfl _ _ rfl w.heap.size v S true rfl (unhide HS3) (by omega) (unhide HB3).size rfl (fun v' w' hv' hb' => ?_); have HV' := hide hv'; have HB' := hide hb'; clear hv' hb')
    go_ret
    exact ⟨_, rfl, (unhide HB3).trans (unhide HB'), unhide HV'⟩
end Go.Proofs.YtonkgiiacholeaaDoor

namespace Go.Proofs.YtonkgiiacholeaaDoor
set_option linter.unusedVariables false
set_option linter.unusedSimpArgs false
open Go.ChangeShapes Go.WideShapes Go.ChangeAt Go.RowKit Go.Joins

theorem wpList_load_run {P : Program} {ops : Array Oper} {rest : List Oper} {o : Oper} {a : Act} {w : World} {Q : Exit → Act → World → Prop} (hgd : o.guard = none) (ty : TypeId) (x : Operand) (ho : o.op = .load ty x)
    (p : Addr) (hx : a.eval x = .pointer (some p)) (v : Value) (hrun : (loadVar ty p).run P w = .ok v w) (h : wpList P ops Q rest (a.put o.dst v) w) : wpList P ops Q (o :: rest) a w :=
  wpList_plain hgd fun _ hK => by
    unfold Oper.wp execOp
    simp only [ho, hx, Instr.loadAt, Instr.sureAddr, Sem.run_bind, Sem.run_pure, Result.andThen_ok, hrun]
    exact hK _ _ h
theorem Bls.at {w : World} {B g c : Nat} {S : List Bool} {k : Nat} {b : Bool} (h : Bls w B (.slice (some ⟨g, 0, none⟩) S.length c) S) (hb : S[k]? = some b) : w.cell? ⟨g, k, none⟩ = some (.bool b) := by
  have hk : k < S.length := (List.getElem?_eq_some_iff.1 hb).1
  have := World.ownsRow.cellAt h k (by omega)
  rw [this]
  simp [bbv, hb]
/-- where they lie there was room -/
theorem Bls.call' {w : World} {B : Nat} {v : Value} {S : List Bool} (h : Bls w B v S) : ∀ g, v.ownBlock = some g → g < w.heap.size := fun g hg => (World.ownsRow.lt h g hg).2
theorem SS.load {w : World} {g o k : Nat} {L : List (List Nat)} {x : List Nat} {A : Array Value} (h : SS w ⟨g, o, none⟩ L) (hx : L[k]? = some x) (hA : (bv x).toArray = A) : (loadVar 43 ⟨g, o + k * 32, none⟩).run Tryd.prog w = .ok (.agg A) w := by
  obtain ⟨x1, x8, xr⟩ := h.at_ k x hx
  rw [← hA]
  exact run_loadVar_mid _ g (o + k * 32) 43 (bv x) _ xr Tryd.underlying43 rfl (size43 x1)
set_option maxRecDepth 100000 in
set_option maxHeartbeats 8000000 in
theorem rproves_ok (v vp : Value) (d : List Nat) (i n : Nat) (P : List (List Nat)) (R : List Nat) (w : World) (hd : Byt w v d) (h8 : U8 d) (hdl : d.length ≤ 100000) (hi : i < n) (hn : n ≤ 1099511627776) (hP : PS w vp P) (hR : R.length = 32) :
    Calls Tryd.prog 35 #[v, .int .i64 (i : Int), .int .i64 (n : Int), vp, .agg (bv R).toArray] w fun e w' => e = .returned (.int .i64 (provesE d i n P R)) ∧ Below w.heap.size w w' := by
  rw [provesE_sides]
  have hz := zero27
  generalize hZ : (bv (List.replicate 32 0)).toArray = Z at hz
  have HZS : Hid (Z.size = 32) := hide (by rw [← hZ, List.size_toArray, bv_len, List.length_replicate])
  have HSD := hide (p := ∀ w', Below w.heap.size w w' → _) (fun w' (hw' : Below w.heap.size w w') => rsides_any n i w' (by omega) hn hi)
  have HLF := hide (p := ∀ w', Below w.heap.size w w' → _) (fun w' hw' => rleaf_any v d w' (hd.call hw') h8 hdl)
  have s40 := sides_40 n i hn
  obtain ⟨S, hS⟩ : ∃ S, sidesL i n = S := ⟨_, rfl⟩
  rw [hS] at HSD s40 ⊢
  have lf1 : (leafL d).length = 32 := sumL_len _ _
  have lf8 : U8 (leafL d) := sumL_8 _ _
  obtain ⟨lf, hlf⟩ : ∃ l, leafL d = l := ⟨_, rfl⟩
  rw [hlf] at HLF lf1 lf8 ⊢
  obtain ⟨RA, hRA⟩ : ∃ A, (bv R).toArray = A := ⟨_, rfl⟩
  have HRA := hide hRA
  have HRS : Hid (RA.size = 32) := hide (by rw [← hRA, List.size_toArray, bv_len, hR])
  have HB1 : Hid (Below w.heap.size w (w.alloc (.cells RA 43))) := hide ((Below.refl _ _).alloc (Nat.le_refl _) _)
  have HR9 : Hid (RowAt (w.alloc (.cells RA 43)) w.heap.size 43 (bv R)) := hide (hRA ▸ RowAt.new w 43 (bv R))
  have HNX : Hid (w.heap.size < (w.alloc (.cells RA 43)).heap.size) := hide (by rw [size_alloc]; omega)
  have HHR := hide hR
  rw [hRA]
  have i0 : ¬ (i : Int) < 0 := by omega
  have i1 : ¬ (n : Int) ≤ (i : Int) := by omega
  have n1 : ¬ (1099511627776 : Int) < (n : Int) := by omega
  have HV := byt_shape hd
  obtain ⟨va, vc, rfl⟩ := HV
  have HP := hide hP
  obtain ⟨pa, pc, rfl, hpc, hpn, hp32, hps⟩ := id hP
  obtain ⟨dn, hdn⟩ : ∃ m, d.length = m := ⟨_, rfl⟩
  rw [hdn] at HLF ⊢
  by_cases hlen : P.length = S.length
  rotate_left
  · rw [if_neg (fun h => hlen h.1)]
    obtain ⟨pn, hpn'⟩ : ∃ m, P.length = m := ⟨_, rfl⟩
    obtain ⟨sn, hsn'⟩ : ∃ m, S.length = m := ⟨_, rfl⟩
    rw [hpn'] at hlen ⊢
    have HSN := hide hsn'
    rw [hsn'] at hlen
    have q1 : ((sn : Int) != (pn : Int)) = true := bne_iff_ne.2 (by omega)
    have q2 : ((sn : Int) == (pn : Int)) = false := beq_eq_false_iff_ne.2 (by omega)
    have q3 : ¬ sn = pn := by omega
    clear hd h8 hdl hi hn hP hR hZ lf1 lf8 hlf hRA hps hp32 hpn hpc hlen hS hpn' hsn' s40 HLF hdn
    go_enter Tryd.func35, Tryd.ntmps35
    go_wp2_with fail
    generalize w.alloc (.cells RA 43) = w1 at *
    refine Calls.mono (unhide HSD _ (unhide HB1)) ?_
    rintro e w2 ⟨sv, rfl, b2, S2⟩
    obtain ⟨sa, sc, hsv, _⟩ := own_shape S2
    rw [unhide HSN] at hsv
    subst hsv
    have HB2 := hide (bcall (unhide HB1) b2)
    clear b2 S2 HSD
    go_wp2_with fail
    go_ret
    exact ⟨rfl, unhide HB2⟩
  obtain ⟨N, hN⟩ : ∃ m, P.length = m := ⟨_, rfl⟩
  have hSN : S.length = N := by omega
  rw [hN]
  have HNN := hide (And.intro hN hSN)
  have N40 : (N : Int) ≤ 40 := by omega
  have nq1 : ((N : Int) != (N : Int)) = false := by simp
  have HUP : Hid (∀ k, (upL lf (S.take k) (P.take k)).length = 32 ∧ U8 (upL lf (S.take k) (P.take k))) := hide (fun k => upL_ok lf1 lf8 _ _)
  have u0 : upL lf (S.take 0) (P.take 0) = lf := by simp [upL]
  have uN : upL lf (S.take N) (P.take N) = upL lf S P := by rw [List.take_of_length_le (by omega), List.take_of_length_le (by omega)]
  have HU0 := hide u0
  have HUN := hide uN
  obtain ⟨r, hr⟩ : ∃ r, decide (upL lf S P = R) = r := ⟨_, rfl⟩
  have hE : (if N = S.length ∧ upL lf S P = R then (0 : Int) else 140) = if r = true then 0 else 140 := by rw [← hr]; simp [hSN]
  rw [hE]
  have HRR := hide hr
  obtain ⟨LF, hLF⟩ : ∃ A, (bv lf).toArray = A := ⟨_, rfl⟩
  rw [hLF] at HLF
  have HLA := hide hLF
  have HLS : Hid (LF.size = 32) := hide (by rw [← hLF, List.size_toArray, bv_len, lf1])
  have HLO : Hid (LF.all (·.oneCell') = true) := hide (hLF ▸ one_bv _)
  have HLL := hide (And.intro lf1 lf8)
  have HPS := hide (And.intro hps hp32)
  clear hd h8 hdl hi hn hP hR hZ lf1 lf8 hlf hRA hps hp32 hpn hpc hlen hS hN hSN s40 hdn u0 uN hr hE hLF
  go_enter Tryd.func35, Tryd.ntmps35
  go_wp2_with fail
  generalize w.alloc (.cells RA 43) = w1 at *
  refine Calls.mono (unhide HSD _ (unhide HB1)) ?_
  rintro e w2 ⟨sv, rfl, b2, S2⟩
  have HB2 := hide (bcall (unhide HB1) b2)
  have HR92 := hide ((unhide HR9).below b2 (unhide HNX))
  have HNX2 := hide (Nat.lt_of_lt_of_le (unhide HNX) b2.size)
  have HS2 := hide S2
  obtain ⟨sa, sc, hsv, _⟩ := own_shape S2
  have hsv2 := hsv
  rw [(unhide HNN).2] at hsv2
  have HSV := hide hsv
  subst hsv2
  clear b2 S2 HSD hsv
  go_wp2_with fail
  refine Calls.mono (unhide HLF _ (unhide HB2)) ?_
  rintro e w3 ⟨rfl, b3⟩
  have HB3 := hide (bcall (unhide HB2) b3)
  have HS3 := hide ((unhide HS2).call b3)
  have HR93 := hide ((unhide HR92).below b3 (unhide HNX2))
  have HNX3 := hide (Nat.lt_of_lt_of_le (unhide HNX2) b3.size)
  have HB4 := hide ((unhide HB3).alloc (unhide HB3).size (.cells LF 43))
  have b3a : Below w3.heap.size w3 (w3.alloc (.cells LF 43)) := (Below.refl _ _).alloc (Nat.le_refl _) _
  have HR94 := hide ((unhide HR93).below b3a (unhide HNX3))
  have HS4 := hide ((unhide HS3).call b3a)
  have HR12 : Hid (RowAt (w3.alloc (.cells LF 43)) w3.heap.size 43 (bv lf)) := hide (unhide HLA ▸ RowAt.new w3 43 (bv lf))
  have HBX := hide (Bls.call' (unhide HS3))
  clear b3 b3a HLF
  go_wp2_with (refine wpList_store_new rfl 43 _ _ rfl LF rfl rfl (by rw [z27, unhide HLS]) (by rw [unhide HLS, unhide HZS]) (unhide HLO) ?_)
  obtain ⟨G, hG⟩ : ∃ g, w3.heap.size = g := ⟨_, rfl⟩
  have HG := hide hG
  rw [hG] at HR12 HNX3 HBX ⊢
  generalize w3.alloc (.cells LF 43) = wL at *
  clear hG
  go_loopw [38] (fun s wr => ∃ k : Nat, k ≤ N ∧ s = .int .i64 (k : Int) ∧ Hid (RowAt wr G 43 (bv (upL lf (S.take k) (P.take k))) ∧ Below G wL wr)) (fun s _ => (N - intOf s).toNat)
  case atStart => exact ⟨0, by omega, by simp, hide ⟨by rw [unhide HU0]; exact unhide HR12, Below.refl _ _⟩⟩
  case round =>
    obtain ⟨k, hk, rfl, HI⟩ := hrel
    have HGL : Hid (G < wL.heap.size) := hide (unhide HR12).lt
    by_cases hlt : k < N
    · obtain ⟨hlP, hlS⟩ := unhide HNN
      obtain ⟨hps, hp32⟩ := unhide HPS
      obtain ⟨hrow, hbel⟩ := unhide HI
      rcases hps with hps | ⟨g, o, rfl, hps⟩
      · rw [hps] at hlP; simp at hlP; omega
      obtain ⟨x, hx⟩ : ∃ x, P[k]? = some x := ⟨_, List.getElem?_eq_getElem (by omega)⟩
      obtain ⟨b, hb⟩ : ∃ x, S[k]? = some x := ⟨_, List.getElem?_eq_getElem (by omega)⟩
      obtain ⟨x1, x8⟩ := hp32 x (List.mem_of_getElem? hx)
      have BW : Below w.heap.size w wr := (unhide HB4).trans (hbel.mono (Nat.le_of_lt (unhide HNX3)))
      have HST := hide (upL_take (s := lf) hb hx)
      obtain ⟨l1, l8⟩ := unhide HUP k
      obtain ⟨U, hU⟩ : ∃ U, upL lf (S.take k) (P.take k) = U := ⟨_, rfl⟩
      rw [hU] at hrow HST l1 l8
      obtain ⟨sg, sc', hsg, _⟩ := own_some (unhide HS4) (by omega)
      have hsg' := hsg
      rw [hlS] at hsg'
      obtain ⟨rfl, rfl⟩ : sa = some ⟨sg, 0, none⟩ ∧ sc = sc' := by simpa using hsg'
      have cb : wr.cell? ⟨sg, k, none⟩ = some (.bool b) := by
        have hblk : sg < G := unhide HBX sg rfl
        have h0 := Bls.at (hlS ▸ unhide HS4) hb
        exact (World.cell?_of_block (hbel.block _ hblk)).trans h0
      obtain ⟨XA, hXA⟩ : ∃ A, (bv x).toArray = A := ⟨_, rfl⟩
      obtain ⟨UA, hUA⟩ : ∃ A, (bv U).toArray = A := ⟨_, rfl⟩
      have HLX := hide ((hps.call BW).load hx hXA)
      have HXS : Hid (XA.size = 32) := hide (by rw [← hXA, List.size_toArray, bv_len, x1])
      have HXO : Hid (XA.all (·.oneCell') = true) := hide (hXA ▸ one_bv _)
      have HUS : Hid (UA.size = 32) := hide (by rw [← hUA, List.size_toArray, bv_len, l1])
      have B1 : Below w.heap.size w (wr.alloc (.cells XA 43)) := BW.alloc BW.size _
      have b1 : Below wr.heap.size wr (wr.alloc (.cells XA 43)) := (Below.refl _ _).alloc (Nat.le_refl _) _
      have cb1 : (wr.alloc (.cells XA 43)).cell? ⟨sg, k, none⟩ = some (.bool b) := (World.cell?_of_block (b1.block _ (World.block_lt_of_cell? _ _ cb))).trans cb
      have HX14 : Hid (RowAt (wr.alloc (.cells XA 43)) wr.heap.size 43 (bv x)) := hide (hXA ▸ RowAt.new wr 43 (bv x))
      have HX12 := hide (hrow.below b1 hrow.lt)
      have HBG := hide (hbel.alloc (Nat.le_trans (Nat.le_of_lt (unhide HGL)) hbel.size) (.cells XA 43))
      have HXA := hide hXA
      have HUA := hide hUA
      have kI : (k : Int) < (N : Int) := by omega
      have HE14 := hide ((unhide HX14).arr hXA)
      have HE12 := hide ((unhide HX12).arr hUA)
      have HGW : Hid (G < wr.heap.size) := hide hrow.lt
      cases b with
      | true =>
        have HKN := hide (fun W => rknot_any x U W x1 l1 x8 l8)
        have hups : upS U true x = knotL x U := rfl
        rw [hups] at HST
        obtain ⟨KD, hKD⟩ : ∃ K, knotL x U = K := ⟨_, rfl⟩
        rw [hKD] at HKN HST
        have HKL : Hid (KD.length = 32) := hide (by rw [← hKD, knotL_len])
        obtain ⟨KA, hKA⟩ : ∃ A, (bv KD).toArray = A := ⟨_, rfl⟩
        rw [hKA, hXA, hUA] at HKN
        have HKS : Hid (KA.size = 32) := hide (by rw [← hKA, List.size_toArray, bv_len, unhide HKL])
        have HKO : Hid (KA.all (·.oneCell') = true) := hide (hKA ▸ one_bv _)
        have HKA := hide hKA
        clear hKA hKD hups hXA hUA hU x1 x8 l1 l8 hx hb hps hp32 hlP hlS hrow hbel BW B1 b1 cb HI hsg hsg'
        go_wp2_with (first
          | (refine wpList_load_run rfl 43 _ rfl ⟨g, o + k * 32, none⟩ rfl (.agg XA) (unhide HLX) ?_)
          | (refine wpList_store_new rfl 43 _ _ rfl XA rfl rfl (by rw [z27, unhide HXS]) (by rw [unhide HXS, unhide HZS]) (unhide HXO) ?_)
          | (refine wpList_load_row rfl 43 _ rfl wr.heap.size rfl 43 XA (0, 0) _ (unhide HE14) Tryd.underlying43 rfl (by rw [z27, unhide HXS]) ?_)
          | (refine wpList_load_row rfl 43 _ rfl G rfl 43 UA (0, 0) _ (unhide HE12) Tryd.underlying43 rfl (by rw [z27, unhide HUS]) ?_))
        refine Calls.mono (unhide HKN _) ?_
        rintro e w6 ⟨rfl, b6⟩
        have HE6 := hide (((unhide HX12).below b6 (unhide HX12).lt).arr (unhide HUA))
        have HBG6 := hide ((unhide HBG).trans (b6.mono (Nat.le_trans (Nat.le_of_lt (unhide HGL)) (unhide HBG).size)))
        clear b6 HKN
        go_wp2_with (refine wpList_store_row rfl 43 _ _ rfl G KA rfl rfl 43 UA (unhide HE6) (by rw [z27, unhide HKS]) (by rw [unhide HKS, unhide HUS]) (unhide HKO) ?_)
        go_roundw
        case rel => exact ⟨k + 1, by omega, by simp, hide ⟨by rw [unhide HST]; exact (unhide HKA) ▸ setRow_heap _ _ _ _ _ _ (unhide HE6), (unhide HBG6).trans ⟨rfl, rfl, rfl, by simp [World.setRow], fun k hk => setRow_other _ _ _ _ (by omega)⟩⟩⟩
        case measure => simp [intOf]; omega
      | false =>
        have HKN := hide (fun W => rknot_any U x W l1 x1 l8 x8)
        have hups : upS U false x = knotL U x := rfl
        rw [hups] at HST
        obtain ⟨KD, hKD⟩ : ∃ K, knotL U x = K := ⟨_, rfl⟩
        rw [hKD] at HKN HST
        have HKL : Hid (KD.length = 32) := hide (by rw [← hKD, knotL_len])
        obtain ⟨KA, hKA⟩ : ∃ A, (bv KD).toArray = A := ⟨_, rfl⟩
        rw [hKA, hXA, hUA] at HKN
        have HKS : Hid (KA.size = 32) := hide (by rw [← hKA, List.size_toArray, bv_len, unhide HKL])
        have HKO : Hid (KA.all (·.oneCell') = true) := hide (hKA ▸ one_bv _)
        have HKA := hide hKA
        clear hKA hKD hups hXA hUA hU x1 x8 l1 l8 hx hb hps hp32 hlP hlS hrow hbel BW B1 b1 cb HI hsg hsg'
        go_wp2_with (first
          | (refine wpList_load_run rfl 43 _ rfl ⟨g, o + k * 32, none⟩ rfl (.agg XA) (unhide HLX) ?_)
          | (refine wpList_store_new rfl 43 _ _ rfl XA rfl rfl (by rw [z27, unhide HXS]) (by rw [unhide HXS, unhide HZS]) (unhide HXO) ?_)
          | (refine wpList_load_row rfl 43 _ rfl wr.heap.size rfl 43 XA (0, 0) _ (unhide HE14) Tryd.underlying43 rfl (by rw [z27, unhide HXS]) ?_)
          | (refine wpList_load_row rfl 43 _ rfl G rfl 43 UA (0, 0) _ (unhide HE12) Tryd.underlying43 rfl (by rw [z27, unhide HUS]) ?_))
        refine Calls.mono (unhide HKN _) ?_
        rintro e w6 ⟨rfl, b6⟩
        have HE6 := hide (((unhide HX12).below b6 (unhide HX12).lt).arr (unhide HUA))
        have HBG6 := hide ((unhide HBG).trans (b6.mono (Nat.le_trans (Nat.le_of_lt (unhide HGL)) (unhide HBG).size)))
        clear b6 HKN
        go_wp2_with (refine wpList_store_row rfl 43 _ _ rfl G KA rfl rfl 43 UA (unhide HE6) (by rw [z27, unhide HKS]) (by rw [unhide HKS, unhide HUS]) (unhide HKO) ?_)
        go_roundw
        case rel => exact ⟨k + 1, by omega, by simp, hide ⟨by rw [unhide HST]; exact (unhide HKA) ▸ setRow_heap _ _ _ _ _ _ (unhide HE6), (unhide HBG6).trans ⟨rfl, rfl, rfl, by simp [World.setRow], fun k hk => setRow_other _ _ _ _ (by omega)⟩⟩⟩
        case measure => simp [intOf]; omega
    · obtain rfl : k = N := by omega
      have kI : ¬ (k : Int) < (k : Int) := by omega
      obtain ⟨hrow, hbel⟩ := unhide HI
      have BW : Below w.heap.size w wr := (unhide HB4).trans (hbel.mono (Nat.le_of_lt (unhide HNX3)))
      have hr9 := (unhide HR94).below hbel (unhide HNX3)
      obtain ⟨l1, l8⟩ := unhide HUP k
      rw [unhide HUN] at hrow l1
      have hq := eq_sums (upL lf S P) R l1 (unhide HHR)
      rw [unhide HRR] at hq
      obtain ⟨UA, hUA⟩ : ∃ A, (bv (upL lf S P)).toArray = A := ⟨_, rfl⟩
      rw [hUA, unhide HRA] at hq
      have HUS : Hid (UA.size = 32) := hide (by rw [← hUA, List.size_toArray, bv_len, l1])
      have HE12 := hide (hrow.arr hUA)
      have HE9 := hide (hr9.arr (unhide HRA))
      have HBW := hide BW
      clear hUA l1 l8 hrow hbel BW hr9 hlt HI
      cases r with
      | true =>
        go_wp2_with (first
          | (refine wpList_load_row rfl 43 _ rfl G rfl 43 UA (0, 0) _ (unhide HE12) Tryd.underlying43 rfl (by rw [z27, unhide HUS]) ?_)
          | (refine wpList_load_row rfl 43 _ rfl w.heap.size rfl 43 RA (0, 0) _ (unhide HE9) Tryd.underlying43 rfl (by rw [z27, unhide HRS]) ?_))
        go_ret
        exact ⟨rfl, unhide HBW⟩
      | false =>
        go_wp2_with (first
          | (refine wpList_load_row rfl 43 _ rfl G rfl 43 UA (0, 0) _ (unhide HE12) Tryd.underlying43 rfl (by rw [z27, unhide HUS]) ?_)
          | (refine wpList_load_row rfl 43 _ rfl w.heap.size rfl 43 RA (0, 0) _ (unhide HE9) Tryd.underlying43 rfl (by rw [z27, unhide HRS]) ?_))
        go_ret
        exact ⟨rfl, unhide HBW⟩
end Go.Proofs.YtonkgiiacholeaaDoor

namespace Go.Proofs.YtonkgiiacholeaaDoor
set_option linter.unusedVariables false
set_option linter.unusedSimpArgs false

section
variable {P : Program} {ops : Array Oper} {Q : Exit → Act → World → Prop} {md : Region.Mode} {S : World → Prop} {hd : Nat → Bool}

def wpAnyT (P : Program) (md : Region.Mode) (ops : Array Oper) (Q : Exit → Act → World → Prop) (S : World → Prop) (hd : Nat → Bool) : Nat → Array Bool → Act → World → Prop
  | 0, listed, a, w => Region.ready md ops listed = [] ∧ Q .normal a w
  | fuel + 1, listed, a, w =>
    (Region.ready md ops listed = [] → Q .normal a w) ∧
    ∀ i ∈ Region.ready md ops listed, wpOp P ops Q i (fun a' w' => (hd i = true → S w') ∧ wpAnyT P md ops Q S hd fuel (listed.setIfInBounds i true) a' w') a w
theorem wpAny_of_T : ∀ (fuel : Nat) (listed : Array Bool) (a : Act) (w : World), wpAnyT P md ops Q S hd fuel listed a w → wpAny P md ops Q fuel listed a w
  | 0, _, _, _, h => h
  | fuel + 1, _, _, _, h => ⟨h.1, fun i hi => wpOp_mono (fun a' w' h' => wpAny_of_T fuel _ a' w' h'.2) (h.2 i hi)⟩
/-- j waits for i, at once or through another one -/
def waits2 (md : Region.Mode) (ops : Array Oper) (j i : Nat) : Bool := Region.waitsFor md ops j i || (List.range ops.size).any fun k => Region.waitsFor md ops j k && Region.waitsFor md ops k i
/-- what has come up did so behind what it waited for -/
def closedB (md : Region.Mode) (ops : Array Oper) (listed : Array Bool) : Bool := (List.range ops.size).all fun k => !listed.getD k false || (List.range ops.size).all fun i => !Region.waitsFor md ops k i || listed.getD i false
/-- whatever has not come up, and behind which nothing is asked, waits for i -/
def tailWaits (md : Region.Mode) (ops : Array Oper) (hd : Nat → Bool) (listed : Array Bool) (i : Nat) : Bool := (List.range ops.size).all fun j => hd j || listed.getD j true || waits2 md ops j i
theorem waits_lt {j i : Nat} (h : Region.waitsFor md ops j i = true) : j < ops.size := by
  obtain ⟨o, ho, _⟩ := Region.waitsFor_spec h
  rcases Nat.lt_or_ge j ops.size with h' | h'
  · exact h'
  · rw [Array.getElem?_eq_none h'] at ho; cases ho
theorem closed_at {k i : Nat} {listed : Array Bool} (h : closedB md ops listed = true) (hi : i < ops.size) (hk : listed.getD k false = true) (hw : Region.waitsFor md ops k i = true) : listed.getD i false = true := by
  have := List.all_eq_true.1 h k (List.mem_range.2 (waits_lt hw))
  rw [hk] at this
  simp only [Bool.not_true, Bool.false_or] at this
  have := List.all_eq_true.1 this i (List.mem_range.2 hi)
  rw [hw] at this
  simpa using this
theorem getD_set_up {listed : Array Bool} {x j : Nat} (h : listed.getD x false = true) : (listed.setIfInBounds j true).getD x false = true := by
  by_cases hjx : j = x
  · subst hjx
    rcases Nat.lt_or_ge j listed.size with h' | h'
    · simp [h']
    · simp [Array.getElem?_eq_none h'] at h
  · rw [getD_set_ne false hjx]; exact h
theorem waits_listed {j i : Nat} {oj : Oper} {listed : Array Bool} (hj : ops[j]? = some oj) (hall : ∀ e ∈ oj.after, Region.binds md e = true → listed.getD e.on false = true) (hw : Region.waitsFor md ops j i = true) : listed.getD i false = true := by
  obtain ⟨o, ho, e, he, hb, hon⟩ := Region.waitsFor_spec hw
  rw [hj] at ho
  obtain rfl := Option.some.inj ho
  rw [← hon]
  exact hall e he hb
theorem closed_set {j : Nat} {oj : Oper} {listed : Array Bool} (h : closedB md ops listed = true) (hj : ops[j]? = some oj) (hall : ∀ e ∈ oj.after, Region.binds md e = true → listed.getD e.on false = true) : closedB md ops (listed.setIfInBounds j true) = true := by
  refine List.all_eq_true.2 fun k hk => ?_
  cases hl : (listed.setIfInBounds j true).getD k false with
  | false => rfl
  | true =>
    simp only [Bool.not_true, Bool.false_or]
    refine List.all_eq_true.2 fun i hi => ?_
    cases hw : Region.waitsFor md ops k i with
    | false => rfl
    | true =>
      simp only [Bool.not_true, Bool.false_or]
      refine getD_set_up ?_
      by_cases hjk : j = k
      · subst hjk; exact waits_listed hj hall hw
      · rw [getD_set_ne false hjk] at hl
        exact closed_at h (List.mem_range.1 hi) hl hw
theorem tailWaits_hd {i j : Nat} {oj : Oper} {listed : Array Bool} (hc : closedB md ops listed = true) (h : tailWaits md ops hd listed i = true) (hj : ops[j]? = some oj) (hun : listed.getD j true = false) (hall : ∀ e ∈ oj.after, Region.binds md e = true → listed.getD e.on false = true) (hii : i < ops.size) (hi : listed.getD i false = false) : hd j = true := by
  have hlt : j < ops.size := by
    rcases Nat.lt_or_ge j ops.size with h' | h'
    · exact h'
    · rw [Array.getElem?_eq_none h'] at hj; cases hj
  have := List.all_eq_true.1 h j (List.mem_range.2 hlt)
  simp only [Bool.or_eq_true, hun, Bool.false_eq_true, or_false] at this
  rcases this with this | this
  · exact this
  · exfalso
    simp only [waits2, Bool.or_eq_true, List.any_eq_true, Bool.and_eq_true] at this
    rcases this with this | ⟨k, hk, h1, h2⟩
    · rw [waits_listed hj hall this] at hi; cases hi
    · rw [closed_at hc hii (waits_listed hj hall h1) h2] at hi; cases hi
theorem tailWaits_set {i j : Nat} {listed : Array Bool} (h : tailWaits md ops hd listed i = true) : tailWaits md ops hd (listed.setIfInBounds j true) i = true := by
  refine List.all_eq_true.2 fun k hk => ?_
  have := List.all_eq_true.1 h k hk
  simp only [Bool.or_eq_true] at this ⊢
  rcases this with (h1 | h1) | h1
  · exact .inl (.inl h1)
  · refine .inl (.inr ?_)
    by_cases hjk : j = k
    · subst hjk
      rcases Nat.lt_or_ge j listed.size with h' | h'
      · simp [h']
      · simp [Array.getElem?_eq_none h', h']
    · rw [getD_set_ne true hjk]; exact h1
  · exact .inr h1
theorem ready_no {i : Nat} {oj : Oper} {listed : Array Bool} (hr : i ∈ Region.ready md ops listed) (hall : ∀ e ∈ oj.after, Region.binds md e = true → listed.getD e.on false = true) : ∀ e ∈ oj.after, Region.binds md e = true → e.on ≠ i := by
  intro d hd hb heq
  have g1 := hall d hd hb
  have g0 := (mem_ready.1 hr).1
  rw [heq] at g1
  rcases Nat.lt_or_ge i listed.size with h' | h'
  · simp [h'] at g0 g1; rw [g0] at g1; cases g1
  · simp [Array.getElem?_eq_none h'] at g1
/-- taken first: what yields under S, if all else waits for it or keeps S -/
theorem wpAnyT_first {i : Nat} {oi : Oper} {v : Value} (S' : World → Prop) (hi : ops[i]? = some oi) (hsel : ∀ (j : Nat) (o : Oper) cs b, ops[j]? = some o → o.op ≠ .select cs b)
    (hQ : ∀ c a w, Q (.panic c) (a.put oi.dst v) w → Q (.panic c) a w) :
    ∀ (fuel : Nat) (listed : Array Bool) (a : Act) (w : World), ((∀ w, S w → S' w) ∧ tailWaits md ops hd listed i = true ∧ closedB md ops listed = true ∨ (∀ w, S' w) ∧ hd i = false) →
      (∀ j oj, ops[j]? = some oj → j ≠ i → listed.getD j true = false → (∀ e ∈ oj.after, Region.binds md e = true → e.on ≠ i) → oi.apart ops oj = true) →
      i ∈ Region.ready md ops listed → YieldsIf P ops S' oi v a → (hd i = true → S w) → S' w →
      wpAnyT P md ops Q S hd fuel (listed.setIfInBounds i true) (a.put oi.dst v) w → wpAnyT P md ops Q S hd (fuel + 1) listed a w := by
  intro fuel
  induction fuel with
  | zero =>
    intro listed a w _ _ hr hy hS hS' H
    refine ⟨fun h => (by rw [h] at hr; cases hr), fun j hj => ?_⟩
    by_cases e : j = i
    · subst e; exact hy.wpOp hi hS' ⟨hS, H⟩
    · have hx := ready_mono hj e
      rw [H.1] at hx
      cases hx
  | succ fuel ih =>
    intro listed a w hT hap hr hy hS hS' H
    refine ⟨fun h => (by rw [h] at hr; cases hr), fun j hj => ?_⟩
    by_cases e : j = i
    · subst e; exact hy.wpOp hi hS' ⟨hS, H⟩
    · obtain ⟨un, oj, hoj, hall⟩ := mem_ready.1 hj
      have hno := ready_no hr hall
      have step := wpOp_putIf hoj (hap j oj hoj e un hno) (fun cs b => hsel i oi cs b hi) (fun cs b => hsel j oj cs b hoj) hQ hy (H.2 j (ready_mono hj e))
      have hap' : ∀ k ok, ops[k]? = some ok → k ≠ i → (listed.setIfInBounds j true).getD k true = false → (∀ e ∈ ok.after, Region.binds md e = true → e.on ≠ i) → oi.apart ops ok = true := by
        intro k ok hk hki hun hno'
        refine hap k ok hk hki ?_ hno'
        by_cases hjk : j = k
        · subst hjk; exact un
        · rw [getD_set_ne true hjk] at hun; exact hun
      refine wpOp_mono (fun a' w' g => ⟨g.2.1, ?_⟩) step
      have H' := g.2.2
      rw [← Array.setIfInBounds_comm _ _ e] at H'
      rcases hT with ⟨h1, h2, h3⟩ | ⟨h1, h2⟩
      · have hs := g.2.1 (tailWaits_hd h3 h2 hoj un hall (by
          rcases Nat.lt_or_ge i ops.size with h' | h'
          · exact h'
          · rw [Array.getElem?_eq_none h'] at hi; cases hi) (getD_both (mem_ready.1 hr).1))
        exact ih _ a' w' (.inl ⟨h1, tailWaits_set h2, closed_set h3 hoj hall⟩) hap' (ready_mono hr (Ne.symm e)) g.1 (fun _ => hs) (h1 _ hs) H'
      · exact ih _ a' w' (.inr ⟨h1, h2⟩) hap' (ready_mono hr (Ne.symm e)) g.1 (fun h => by rw [h2] at h; cases h) (h1 _) H'
theorem wpAnyT_take {i : Nat} {oi : Oper} {v : Value} {fuel : Nat} {listed : Array Bool} {a : Act} {w : World} (hi : ops[i]? = some oi)
    (hs : Region.noSelect ops = true) (hf : Region.free md ops listed i = true) (hr : (Region.ready md ops listed).contains i = true) (hT : (tailWaits md ops hd listed i && closedB md ops listed) = true)
    (hQ : ∀ c a w, Q (.panic c) (a.put oi.dst v) w → Q (.panic c) a w) (hy : YieldsIf P ops S oi v a) (hS : S w)
    (h : wpAnyT P md ops Q S hd fuel (listed.setIfInBounds i true) (a.put oi.dst v) w) : wpAnyT P md ops Q S hd (fuel + 1) listed a w :=
  wpAnyT_first S hi (Region.noSelect_spec hs) hQ fuel listed a w (.inl ⟨fun _ h => h, (Bool.and_eq_true _ _ ▸ hT).1, (Bool.and_eq_true _ _ ▸ hT).2⟩) (Region.free_spec hi hf) (by simpa using hr) hy (fun _ => hS) hS h
/-- what yields whatever the world -/
theorem wpAnyT_pure {i : Nat} {oi : Oper} {v : Value} {fuel : Nat} {listed : Array Bool} {a : Act} {w : World} (hi : ops[i]? = some oi)
    (hs : Region.noSelect ops = true) (hf : Region.free md ops listed i = true) (hr : (Region.ready md ops listed).contains i = true) (hT : hd i = false)
    (hQ : ∀ c a w, Q (.panic c) (a.put oi.dst v) w → Q (.panic c) a w) (hy : YieldsIf P ops (fun _ => True) oi v a)
    (h : wpAnyT P md ops Q S hd fuel (listed.setIfInBounds i true) (a.put oi.dst v) w) : wpAnyT P md ops Q S hd (fuel + 1) listed a w :=
  wpAnyT_first (fun _ => True) hi (Region.noSelect_spec hs) hQ fuel listed a w (.inr ⟨fun _ => trivial, hT⟩) (Region.free_spec hi hf) (by simpa using hr) hy (fun h => by rw [hT] at h; cases h) trivial h
/-- what alone may come up -/
theorem wpAnyT_one {i : Nat} {o : Oper} {fuel : Nat} {listed : Array Bool} {a : Act} {w : World} (hr : Region.ready md ops listed = [i]) (ho : ops[i]? = some o)
    (h : ∀ K' : Act → World → Prop, Shut (∀ a w, (hd i = true → S w) → wpAnyT P md ops Q S hd fuel (listed.setIfInBounds i true) a w → K' a w) → if Region.wanted o (yielded ops a.tmps) = true then Oper.wp P o a w K' Q else K' (a.put o.dst undef) w) :
    wpAnyT P md ops Q S hd (fuel + 1) listed a w := by
  refine ⟨fun h0 => absurd (hr ▸ h0) (by simp), fun j hj => ?_⟩
  rw [hr] at hj
  obtain rfl := List.mem_singleton.1 hj
  exact wpOp_step ho (fun K' hK => h K' (fun a w hS hW => hK a w ⟨hS, hW⟩))
theorem wpAnyT_done {listed : Array Bool} {a : Act} {w : World} (hr : Region.ready md ops listed = []) (h : Q .normal a w) : ∀ fuel, wpAnyT P md ops Q S hd fuel listed a w
  | 0 => ⟨hr, h⟩
  | _ + 1 => ⟨fun _ => h, by rw [hr]; simp⟩
theorem wp_region_T {id : Nat} {a : Act} {w : World} (hd : Nat → Bool) (hm : P.follows .mixedOrders = true) (hS : S w.drew)
    (h : S w.drew → wpAnyT P .any ops Q S hd ops.size (Array.replicate ops.size false) a w.drew) : (Code.region id ops true).wp P Q a w :=
  wp_region_any hm (wpAny_of_T _ _ _ _ (h hS))
end
end Go.Proofs.YtonkgiiacholeaaDoor

namespace Go.Proofs.YtonkgiiacholeaaDoor
set_option linter.unusedVariables false
set_option linter.unusedSimpArgs false
open Go.ChangeShapes Go.WideShapes Go.ChangeAt Go.RowKit Go.Joins

def zs32 : List Nat := List.replicate 32 0
/-- leadBoth: what it was, what it is, and whether the proof has as many digests as that takes -/
def leadB (known : Option (List Nat)) (m n : Nat) (P : List (List Nat)) : List Nat × List Nat × Bool :=
  if m = n ∧ known.isSome then (known.getD [], known.getD [], P.isEmpty)
  else match P.getLast? with
    | none => (zs32, zs32, false)
    | some y =>
      if m = n then (y, y, P.dropLast.isEmpty)
      else if h : 2 ≤ n then
        if m ≤ half n then ((leadB known m (half n) P.dropLast).1, knotL (leadB known m (half n) P.dropLast).2.1 y, (leadB known m (half n) P.dropLast).2.2)
        else (knotL y (leadB none (m - half n) (n - half n) P.dropLast).1, knotL y (leadB none (m - half n) (n - half n) P.dropLast).2.1, (leadB none (m - half n) (n - half n) P.dropLast).2.2)
      else (zs32, zs32, false)
termination_by n
decreasing_by
  all_goals (have h1 := half_lt h; have h2 := half_pos n; omega)
theorem leadB_known {k : List Nat} {m : Nat} {P : List (List Nat)} : leadB (some k) m m P = (k, k, P.isEmpty) := by rw [leadB]; simp
theorem leadB_none {known : Option (List Nat)} {m n : Nat} (h : ¬ (m = n ∧ known.isSome)) : leadB known m n [] = (zs32, zs32, false) := by rw [leadB, if_neg h]; rfl
theorem leadB_last {m : Nat} {P : List (List Nat)} {y : List Nat} (hy : P.getLast? = some y) : leadB none m m P = (y, y, P.dropLast.isEmpty) := by rw [leadB]; simp [hy]
theorem leadB_low {known : Option (List Nat)} {m n : Nat} {P : List (List Nat)} {y : List Nat} (hm : ¬ m = n) (h : 2 ≤ n) (hy : P.getLast? = some y) (hi : m ≤ half n) :
    leadB known m n P = ((leadB known m (half n) P.dropLast).1, knotL (leadB known m (half n) P.dropLast).2.1 y, (leadB known m (half n) P.dropLast).2.2) := by
  rw [leadB, if_neg (fun e => hm e.1), hy]
  simp only []
  rw [if_neg hm, dif_pos h, if_pos hi]
theorem leadB_high {known : Option (List Nat)} {m n : Nat} {P : List (List Nat)} {y : List Nat} (hm : ¬ m = n) (h : 2 ≤ n) (hy : P.getLast? = some y) (hi : ¬ m ≤ half n) :
    leadB known m n P = (knotL y (leadB none (m - half n) (n - half n) P.dropLast).1, knotL y (leadB none (m - half n) (n - half n) P.dropLast).2.1, (leadB none (m - half n) (n - half n) P.dropLast).2.2) := by
  rw [leadB, if_neg (fun e => hm e.1), hy]
  simp only []
  rw [if_neg hm, dif_pos h, if_neg hi]
theorem zs32_ok : zs32.length = 32 ∧ U8 zs32 := ⟨List.length_replicate, fun x hx => by rw [List.eq_of_mem_replicate hx]; decide⟩
theorem leadB_ok : ∀ (n : Nat) (known : Option (List Nat)) (m : Nat) (P : List (List Nat)), (∀ k, known = some k → k.length = 32 ∧ U8 k) → (∀ s ∈ P, s.length = 32 ∧ U8 s) →
    ((leadB known m n P).1.length = 32 ∧ U8 (leadB known m n P).1) ∧ (leadB known m n P).2.1.length = 32 ∧ U8 (leadB known m n P).2.1 := by
  intro n
  induction n using Nat.strongRecOn with
  | _ n ih =>
  intro known m P hk hP
  by_cases h0 : m = n ∧ known.isSome
  · obtain ⟨rfl, hs⟩ := h0
    obtain ⟨k, rfl⟩ := Option.isSome_iff_exists.1 hs
    rw [leadB_known]
    exact ⟨hk k rfl, hk k rfl⟩
  cases hl : P.getLast? with
  | none =>
    obtain rfl := List.getLast?_eq_none_iff.1 hl
    rw [leadB_none h0]
    exact ⟨zs32_ok, zs32_ok⟩
  | some y =>
    have hy : y.length = 32 ∧ U8 y := hP y (List.mem_of_getLast? hl)
    have hd : ∀ s ∈ P.dropLast, s.length = 32 ∧ U8 s := fun s hs => hP s (List.mem_of_mem_take (by rw [← List.dropLast_eq_take]; exact hs))
    by_cases hm : m = n
    · subst hm
      have : known = none := by cases known with | none => rfl | some k => simp at h0
      subst this
      rw [leadB_last hl]
      exact ⟨hy, hy⟩
    by_cases h2 : 2 ≤ n
    · have hh := half_lt h2
      have hp := half_pos n
      by_cases hi : m ≤ half n
      · rw [leadB_low hm h2 hl hi]
        have := ih (half n) hh known m P.dropLast hk hd
        exact ⟨this.1, knotL_len _ _, knotL_8 _ _⟩
      · rw [leadB_high hm h2 hl hi]
        exact ⟨⟨knotL_len _ _, knotL_8 _ _⟩, knotL_len _ _, knotL_8 _ _⟩
    · rw [leadB, if_neg h0, hl]
      simp only []
      rw [if_neg hm, dif_neg h2]
      exact ⟨zs32_ok, zs32_ok⟩

/-- the reference's way -/
def wayL (m n : Nat) (known : Bool) : List Bool × Bool :=
  if m = n then ([], known)
  else if h : 2 ≤ n then
    if m ≤ half n then ((wayL m (half n) known).1 ++ [false], (wayL m (half n) known).2)
    else ((wayL (m - half n) (n - half n) false).1 ++ [true], (wayL (m - half n) (n - half n) false).2)
  else ([], known)
termination_by n
decreasing_by
  all_goals (have h1 := half_lt h; have h2 := half_pos n; omega)
theorem wayL_all {m : Nat} {b : Bool} : wayL m m b = ([], b) := by rw [wayL, if_pos rfl]
theorem wayL_low {m n : Nat} {b : Bool} (hm : ¬ m = n) (h : 2 ≤ n) (hi : m ≤ half n) : wayL m n b = ((wayL m (half n) b).1 ++ [false], (wayL m (half n) b).2) := by
  rw [wayL, if_neg hm, dif_pos h, if_pos hi]
theorem wayL_high {m n : Nat} {b : Bool} (hm : ¬ m = n) (h : 2 ≤ n) (hi : ¬ m ≤ half n) : wayL m n b = ((wayL (m - half n) (n - half n) false).1 ++ [true], (wayL (m - half n) (n - half n) false).2) := by
  rw [wayL, if_neg hm, dif_pos h, if_neg hi]
theorem way_bl : ∀ (n m : Nat) (b : Bool), (wayL m n b).1.length ≤ bl (n - 1) := by
  intro n
  induction n using Nat.strongRecOn with
  | _ n ih =>
  intro m b
  by_cases hm : m = n
  · subst hm; rw [wayL_all]; exact Nat.zero_le _
  by_cases h2 : 2 ≤ n
  · have hh := half_lt h2
    have hp := half_pos n
    have e1 := bl_pred_half h2
    have e2 := bl_pred_rest h2
    by_cases hi : m ≤ half n
    · rw [wayL_low hm h2 hi, List.length_append, List.length_singleton]
      have := ih (half n) (by omega) m b
      omega
    · rw [wayL_high hm h2 hi, List.length_append, List.length_singleton]
      have := ih (n - half n) (by omega) (m - half n) false
      omega
  · rw [wayL, if_neg hm, dif_neg h2]; exact Nat.zero_le _
theorem way_40 (n m : Nat) (b : Bool) (hn : n ≤ 1099511627776) : (wayL m n b).1.length ≤ 40 := by
  refine Nat.le_trans (way_bl n m b) (bl_le.2 ?_)
  have : (2 : Nat) ^ 40 = 1099511627776 := by decide
  omega
theorem way_false : ∀ (n m : Nat), (wayL m n false).2 = false := by
  intro n
  induction n using Nat.strongRecOn with
  | _ n ih =>
  intro m
  by_cases hm : m = n
  · subst hm; rw [wayL_all]
  by_cases h2 : 2 ≤ n
  · have hh := half_lt h2
    have hp := half_pos n
    by_cases hi : m ≤ half n
    · rw [wayL_low hm h2 hi]; exact ih (half n) (by omega) m
    · rw [wayL_high hm h2 hi]; exact ih (n - half n) (by omega) (m - half n)
  · rw [wayL, if_neg hm, dif_neg h2]
/-- what it was: only what stands ahead counts -/
def waS (s : List Nat) (b : Bool) (p : List Nat) : List Nat := if b then knotL p s else s
def waL (s : List Nat) (S : List Bool) (P : List (List Nat)) : List Nat := (S.zip P).foldl (fun s x => waS s x.1 x.2) s
theorem waL_snoc {s : List Nat} {S : List Bool} {P : List (List Nat)} {b : Bool} {y : List Nat} (h : S.length = P.length) : waL s (S ++ [b]) (P ++ [y]) = waS (waL s S P) b y := by
  unfold waL
  rw [List.zip_append h, List.foldl_append]
  rfl
theorem waS_ok {s p : List Nat} {b : Bool} (hs : s.length = 32 ∧ U8 s) : (waS s b p).length = 32 ∧ U8 (waS s b p) := by
  unfold waS; split
  · exact ⟨knotL_len _ _, knotL_8 _ _⟩
  · exact hs
theorem waL_ok {s : List Nat} (hs : s.length = 32 ∧ U8 s) : ∀ (S : List Bool) (P : List (List Nat)), (waL s S P).length = 32 ∧ U8 (waL s S P) := by
  intro S
  induction S generalizing s with
  | nil => intro P; exact hs
  | cons b S ih =>
    intro P
    cases P with
    | nil => exact hs
    | cons p P => exact ih (waS_ok hs) P
theorem waL_take {s : List Nat} {S : List Bool} {P : List (List Nat)} {k : Nat} {b : Bool} {p : List Nat} (hb : S[k]? = some b) (hp : P[k]? = some p) : waL s (S.take (k + 1)) (P.take (k + 1)) = waS (waL s (S.take k) (P.take k)) b p := by
  have h1 := (List.getElem?_eq_some_iff.1 hb).1
  have h2 := (List.getElem?_eq_some_iff.1 hp).1
  rw [List.take_add_one, List.take_add_one, hb, hp]
  exact waL_snoc (by rw [List.length_take, List.length_take]; omega)
theorem concat_last {P : List (List Nat)} {y : List Nat} (hl : P.getLast? = some y) : P = P.dropLast ++ [y] := by
  have hne : P ≠ [] := fun e => by subst e; cases hl
  have := List.dropLast_concat_getLast hne
  rw [List.getLast?_eq_some_getLast hne] at hl
  rw [Option.some.inj hl] at this
  exact this.symm
/-- known at the bottom -/
theorem leadB_way (k : List Nat) : ∀ (n m : Nat) (P : List (List Nat)), 1 ≤ m → m ≤ n → (wayL m n true).2 = true →
    ((leadB (some k) m n P).2.2 = true ↔ P.length = (wayL m n true).1.length) ∧ (P.length = (wayL m n true).1.length → (leadB (some k) m n P).1 = waL k (wayL m n true).1 P ∧ (leadB (some k) m n P).2.1 = upL k (wayL m n true).1 P) := by
  intro n
  induction n using Nat.strongRecOn with
  | _ n ih =>
  intro m P h1 hmn hw
  by_cases hm : m = n
  · subst hm
    rw [leadB_known, wayL_all]
    exact ⟨by cases P <;> simp, fun _ => ⟨rfl, rfl⟩⟩
  have h2 : 2 ≤ n := by omega
  have hh := half_lt h2
  have hp := half_pos n
  by_cases hi : m ≤ half n
  · rw [wayL_low hm h2 hi] at hw ⊢
    simp only at hw
    cases hl : P.getLast? with
    | none =>
      obtain rfl := List.getLast?_eq_none_iff.1 hl
      rw [leadB_none (fun e => hm e.1)]
      simp
    | some y =>
      have hP := concat_last hl
      have hPl : P.length = P.dropLast.length + 1 := by have := congrArg List.length hP; rw [List.length_append, List.length_singleton] at this; exact this
      obtain ⟨i1, i2⟩ := ih (half n) hh m P.dropLast h1 hi hw
      rw [leadB_low hm h2 hl hi, List.length_append, List.length_singleton]
      refine ⟨?_, fun h => ?_⟩
      · simp only []; rw [i1]; omega
      · have h' : P.dropLast.length = (wayL m (half n) true).1.length := by omega
        obtain ⟨j1, j2⟩ := i2 h'
        have e1 : waL k ((wayL m (half n) true).1 ++ [false]) P = waS (waL k (wayL m (half n) true).1 P.dropLast) false y := by
          conv => lhs; rw [hP]
          rw [waL_snoc h'.symm]
        have e2 : upL k ((wayL m (half n) true).1 ++ [false]) P = upS (upL k (wayL m (half n) true).1 P.dropLast) false y := by
          conv => lhs; rw [hP]
          rw [upL_snoc h'.symm]
        rw [e1, e2]
        simp only []
        rw [j1, j2]
        exact ⟨rfl, rfl⟩
  · rw [wayL_high hm h2 hi] at hw
    simp only at hw
    rw [way_false] at hw
    cases hw
/-- unknown at the bottom: the proof's first digest is that -/
theorem leadB_way' : ∀ (n m : Nat) (known : Option (List Nat)) (P : List (List Nat)), 1 ≤ m → m ≤ n → (wayL m n known.isSome).2 = false →
    ((leadB known m n P).2.2 = true ↔ P.length = (wayL m n known.isSome).1.length + 1) ∧ (∀ f Q, P = f :: Q → Q.length = (wayL m n known.isSome).1.length → (leadB known m n P).1 = waL f (wayL m n known.isSome).1 Q ∧ (leadB known m n P).2.1 = upL f (wayL m n known.isSome).1 Q) := by
  intro n
  induction n using Nat.strongRecOn with
  | _ n ih =>
  intro m known P h1 hmn hw
  cases hl : P.getLast? with
  | none =>
    obtain rfl := List.getLast?_eq_none_iff.1 hl
    rw [leadB_none (fun e => by obtain ⟨rfl, hs⟩ := e; rw [wayL_all] at hw; simp [hs] at hw)]
    exact ⟨by simp, fun f Q h => by cases h⟩
  | some y =>
    have hP := concat_last hl
    have hPl : P.length = P.dropLast.length + 1 := by have := congrArg List.length hP; rw [List.length_append, List.length_singleton] at this; exact this
    by_cases hm : m = n
    · subst hm
      rw [wayL_all] at hw ⊢
      simp only at hw
      have : known = none := by cases known with | none => rfl | some k => simp at hw
      subst this
      rw [leadB_last hl]
      refine ⟨?_, fun f Q h hq => ?_⟩
      · simp only [List.length_nil, List.isEmpty_iff]
        constructor
        · intro h; rw [hPl, h]; rfl
        · intro h; exact List.length_eq_zero_iff.1 (by omega)
      · subst h
        obtain rfl := List.length_eq_zero_iff.1 hq
        simp at hl
        subst hl
        exact ⟨rfl, rfl⟩
    have h2 : 2 ≤ n := by omega
    have hh := half_lt h2
    have hp := half_pos n
    have key : ∀ (kn : Option (List Nat)) (m' n' : Nat) (b : Bool), ((leadB kn m' n' P.dropLast).2.2 = true ↔ P.dropLast.length = (wayL m' n' kn.isSome).1.length + 1) →
        (∀ f Q, P.dropLast = f :: Q → Q.length = (wayL m' n' kn.isSome).1.length → (leadB kn m' n' P.dropLast).1 = waL f (wayL m' n' kn.isSome).1 Q ∧ (leadB kn m' n' P.dropLast).2.1 = upL f (wayL m' n' kn.isSome).1 Q) →
        ((leadB kn m' n' P.dropLast).2.2 = true ↔ P.length = ((wayL m' n' kn.isSome).1 ++ [b]).length + 1) ∧
        (∀ f Q, P = f :: Q → Q.length = ((wayL m' n' kn.isSome).1 ++ [b]).length → waS (leadB kn m' n' P.dropLast).1 b y = waL f ((wayL m' n' kn.isSome).1 ++ [b]) Q ∧ upS (leadB kn m' n' P.dropLast).2.1 b y = upL f ((wayL m' n' kn.isSome).1 ++ [b]) Q) := by
      intro kn m' n' b i1 i2
      rw [List.length_append, List.length_singleton]
      refine ⟨by rw [i1]; omega, fun f Q hfQ hq => ?_⟩
      have hQ : Q = Q.dropLast ++ [y] := by
        refine concat_last ?_
        rw [hfQ] at hl
        cases Q with
        | nil => simp at hq
        | cons q Q => simpa using hl
      have hdl : P.dropLast = f :: Q.dropLast := by
        rw [hfQ]
        cases Q with
        | nil => simp at hq
        | cons q Q => rfl
      have hql : Q.dropLast.length = (wayL m' n' kn.isSome).1.length := by rw [List.length_dropLast]; omega
      obtain ⟨j1, j2⟩ := i2 f Q.dropLast hdl hql
      have e1 : waL f ((wayL m' n' kn.isSome).1 ++ [b]) Q = waS (waL f (wayL m' n' kn.isSome).1 Q.dropLast) b y := by
        conv => lhs; rw [hQ]
        rw [waL_snoc hql.symm]
      have e2 : upL f ((wayL m' n' kn.isSome).1 ++ [b]) Q = upS (upL f (wayL m' n' kn.isSome).1 Q.dropLast) b y := by
        conv => lhs; rw [hQ]
        rw [upL_snoc hql.symm]
      rw [e1, e2, j1, j2]
      exact ⟨rfl, rfl⟩
    by_cases hi : m ≤ half n
    · rw [wayL_low hm h2 hi] at hw ⊢
      rw [leadB_low hm h2 hl hi]
      simp only at hw ⊢
      obtain ⟨i1, i2⟩ := ih (half n) hh m known P.dropLast h1 hi hw
      exact key known m (half n) false i1 i2
    · rw [wayL_high hm h2 hi] at hw ⊢
      rw [leadB_high hm h2 hl hi]
      simp only at hw ⊢
      obtain ⟨i1, i2⟩ := ih (n - half n) (by omega) (m - half n) none P.dropLast (by omega) (by omega) hw
      exact key none (m - half n) (n - half n) true i1 i2
/-- what Grows answers -/
def growsE (m n : Nat) (old R : List Nat) (P : List (List Nat)) : Int := if (leadB (some old) m n P).2.2 = true ∧ (leadB (some old) m n P).1 = old ∧ (leadB (some old) m n P).2.1 = R then 0 else 140
theorem growsE_known {m n : Nat} {old R : List Nat} {P : List (List Nat)} (h1 : 1 ≤ m) (hmn : m ≤ n) (hw : (wayL m n true).2 = true) :
    growsE m n old R P = if P.length = (wayL m n true).1.length ∧ waL old (wayL m n true).1 P = old ∧ upL old (wayL m n true).1 P = R then 0 else 140 := by
  obtain ⟨i1, i2⟩ := leadB_way old n m P h1 hmn hw
  unfold growsE
  by_cases h : P.length = (wayL m n true).1.length
  · obtain ⟨j1, j2⟩ := i2 h
    rw [j1, j2]
    simp [i1.2 h, h]
  · have : ¬ (leadB (some old) m n P).2.2 = true := fun e => h (i1.1 e)
    simp [this, h]
theorem growsE_none {m n : Nat} {old R : List Nat} (h1 : 1 ≤ m) (hmn : m ≤ n) (hw : (wayL m n true).2 = false) : growsE m n old R [] = 140 := by
  obtain ⟨i1, -⟩ := leadB_way' n m (some old) [] h1 hmn hw
  unfold growsE
  have : ¬ (leadB (some old) m n []).2.2 = true := fun e => by have := i1.1 e; simp at this
  simp [this]
theorem growsE_first {m n : Nat} {old R f : List Nat} {Q : List (List Nat)} (h1 : 1 ≤ m) (hmn : m ≤ n) (hw : (wayL m n true).2 = false) :
    growsE m n old R (f :: Q) = if Q.length = (wayL m n true).1.length ∧ waL f (wayL m n true).1 Q = old ∧ upL f (wayL m n true).1 Q = R then 0 else 140 := by
  obtain ⟨i1, i2⟩ := leadB_way' n m (some old) (f :: Q) h1 hmn hw
  unfold growsE
  by_cases h : Q.length = (wayL m n true).1.length
  · obtain ⟨j1, j2⟩ := i2 f Q rfl h
    rw [Option.isSome_some] at j1 j2 i1
    rw [j1, j2]
    have : (leadB (some old) m n (f :: Q)).2.2 = true := i1.2 (by rw [List.length_cons, h])
    simp [this, h]
  · have : ¬ (leadB (some old) m n (f :: Q)).2.2 = true := fun e => by
      have := i1.1 e
      rw [Option.isSome_some, List.length_cons] at this
      omega
    simp [this, h]
end Go.Proofs.YtonkgiiacholeaaDoor

namespace Go.Proofs.YtonkgiiacholeaaDoor
set_option linter.unusedVariables false
set_option linter.unusedSimpArgs false
open Go.ChangeShapes Go.WideShapes Go.ChangeAt Go.RowKit Go.Joins

theorem rangeAt_setRow {w : World} {g g' o : Nat} {cs : List Value} (h : w.rangeAt g o cs) (hg : g ≠ g') (A : Array Value) : (w.setRow g' A).rangeAt g o cs := fun j v hj =>
  (World.cell?_of_block (setRow_other _ _ _ _ hg)).trans (h j v hj)
theorem rangeAt_below {w w' : World} {g o : Nat} {cs : List Value} (h : w.rangeAt g o cs) (b : Below w.heap.size w w') : w'.rangeAt g o cs := fun j v hj => by
  have := h j v hj
  exact (World.cell?_of_block (b.block _ (World.block_lt_of_cell? _ _ this))).trans this
theorem rangeAt_lt {w : World} {g : Nat} {cs : List Value} (h : w.rangeAt g 0 cs) (hc : 0 < cs.length) : g < w.heap.size := World.block_lt_of_cell? _ _ (h 0 cs[0] (List.getElem?_eq_getElem hc))
theorem Below.setRow {B : Nat} {w0 W : World} (h : Below B w0 W) (g : Nat) (A : Array Value) (hg : B ≤ g) : Below B w0 (W.setRow g A) := h.trans ⟨rfl, rfl, rfl, by simp [World.setRow], fun k hk => setRow_other _ _ _ _ (by omega)⟩
theorem arr_other {w : World} {g g' : Nat} {t : TypeId} {A B : Array Value} (h : w.heap[g]? = some (.cells A t (0, 0))) (hg : g ≠ g') : (w.setRow g' B).heap[g]? = some (.cells A t (0, 0)) := (setRow_other _ _ _ _ hg).trans h
theorem results_row_row_tmp {P : Program} {fn : Func} {p q u : Tmp} {ty : TypeId} (h : fn.results = #[.cell p ty, .cell q ty, .tmp u]) (tmps : Array Value) (w : World) (g g' : Nat) (t t' : TypeId) (cs cs' : Array Value) (fr fr' : Nat × Nat) (d : TypeDesc)
    (hp : tmps.getD p undef = .pointer (some ⟨g, 0, none⟩)) (hq : tmps.getD q undef = .pointer (some ⟨g', 0, none⟩)) (hg : w.heap[g]? = some (.cells cs t fr)) (hg' : w.heap[g']? = some (.cells cs' t' fr'))
    (hu : P.underlying ty = some d) (hd : (match d with | .struct _ | .array _ _ => true | _ => false) = true) (hi : (P.info? ty).map (·.size) = some cs.size) (hi' : (P.info? ty).map (·.size) = some cs'.size) :
    (results fn tmps).run P w = .ok (.tuple #[.agg cs, .agg cs', tmps.getD u undef]) w := by
  have hp' : tmps[p]?.getD undef = .pointer (some ⟨g, 0, none⟩) := by simpa using hp
  have hq' : tmps[q]?.getD undef = .pointer (some ⟨g', 0, none⟩) := by simpa using hq
  simp only [results, h]
  simp [Sem.run_bind, Result.andThen, hp', hq', asAddr, Go.run_loadVar_row w g t ty cs fr d hg hu hd hi, Go.run_loadVar_row w g' t' ty cs' fr' d hg' hu hd hi']
/-- a digest that may be at hand -/
def KP (w : World) (kp : Value) : Option (List Nat) → Prop
  | none => kp = .pointer none
  | some k => (k.length = 32 ∧ U8 k) ∧ ∃ g, kp = .pointer (some ⟨g, 0, none⟩) ∧ w.rangeAt g 0 (bv k)
theorem KP.call {w w' : World} {kp : Value} {known : Option (List Nat)} (h : KP w kp known) (b : Below w.heap.size w w') : KP w' kp known := by
  cases known with
  | none => exact h
  | some k =>
    obtain ⟨h1, g, h2, h3⟩ := h
    exact ⟨h1, g, h2, rangeAt_below h3 b⟩
theorem KP.ok {w : World} {kp : Value} {known : Option (List Nat)} (h : KP w kp known) : ∀ k, known = some k → k.length = 32 ∧ U8 k := by
  rintro k rfl
  exact h.1
/-- three rows, and nothing older changed -/
def K3 (w0 w' : World) (a b c : Nat) (A B C : List Value) : Prop := w'.rangeAt a 0 A ∧ w'.rangeAt b 0 B ∧ w'.rangeAt c 0 C ∧ Below w0.heap.size w0 w'
theorem K3.call {w0 w' : World} {a b c : Nat} {A B C : List Value} (h : K3 w0 w0 a b c A B C) (bl : Below w0.heap.size w0 w') : K3 w0 w' a b c A B C :=
  ⟨rangeAt_below h.1 bl, rangeAt_below h.2.1 bl, rangeAt_below h.2.2.1 bl, bl⟩
set_option maxRecDepth 100000 in
set_option maxHeartbeats 8000000 in
theorem lb_known (k : List Nat) (gk m : Nat) (P : List (List Nat)) (v : Value) (w : World) (hk : k.length = 32) (hr : w.rangeAt gk 0 (bv k)) (hP : PS w v P) :
    Calls Tryd.prog 65 #[.pointer (some ⟨gk, 0, none⟩), .int .i64 (m : Int), .int .i64 (m : Int), v] w fun e w' => e = .returned (.tuple #[.agg (bv k).toArray, .agg (bv k).toArray, .bool P.isEmpty]) ∧ Below w.heap.size w w' := by
  have hz := zero27
  generalize hZ : (bv (List.replicate 32 0)).toArray = Z at hz
  have HZE := hide hZ
  have HZS : Hid (Z.size = 32) := hide (by rw [← hZ, List.size_toArray, bv_len, List.length_replicate])
  have HZO : Hid (Z.all (·.oneCell') = true) := hide (hZ ▸ one_bv _)
  have HB1 : Hid (Below w.heap.size w ((w.alloc (.cells Z 43)).alloc (.cells Z 43))) := hide (by
    have b0 : Below w.heap.size w (w.alloc (.cells Z 43)) := (Below.refl _ _).alloc (Nat.le_refl _) _
    exact b0.alloc b0.size _)
  have HE8 : Hid (((w.alloc (.cells Z 43)).alloc (.cells Z 43)).heap[w.heap.size]? = some (.cells Z 43 (0, 0))) := hide (by
    have r0 : RowAt (w.alloc (.cells Z 43)) w.heap.size 43 (bv (List.replicate 32 0)) := hZ ▸ RowAt.new w 43 _
    have bx : Below (w.alloc (.cells Z 43)).heap.size (w.alloc (.cells Z 43)) ((w.alloc (.cells Z 43)).alloc (.cells Z 43)) := (Below.refl _ _).alloc (Nat.le_refl _) _
    exact (r0.below bx r0.lt).arr hZ)
  have HE9 : Hid (((w.alloc (.cells Z 43)).alloc (.cells Z 43)).heap[w.heap.size + 1]? = some (.cells Z 43 (0, 0))) := hide (by
    have := RowAt.new (w.alloc (.cells Z 43)) 43 (bv (List.replicate 32 0))
    rw [hZ, size_alloc] at this
    exact this.arr hZ)
  have HS1 : Hid (((w.alloc (.cells Z 43)).alloc (.cells Z 43)).heap.size = w.heap.size + 2) := hide (by rw [size_alloc, size_alloc])
  obtain ⟨X, hX⟩ : ∃ X, bv k = X := ⟨_, rfl⟩
  have hiX : (Tryd.prog.info? 43).map (·.size) = some X.length := hX ▸ size43 hk
  have hXl : X.length = 32 := by rw [← hX, bv_len, hk]
  obtain ⟨XA, hXA⟩ : ∃ A, X.toArray = A := ⟨_, rfl⟩
  have HXO : Hid (XA.all (·.oneCell') = true) := hide (hXA ▸ hX ▸ one_bv k)
  have HXS : Hid (XA.size = 32) := hide (by rw [← hXA, List.size_toArray, hXl])
  rw [hX] at hr
  rw [hX, hXA]
  have hgk := rangeAt_lt hr (by omega)
  have HGK : Hid (gk ≠ w.heap.size ∧ gk ≠ w.heap.size + 1) := hide ⟨by omega, by omega⟩
  have HXR := hide (rangeAt_below hr (unhide HB1))
  obtain ⟨a, c, rfl, hc, hn, hl, _⟩ := hP
  have he : P.isEmpty = ((P.length : Int) == 0) := by cases P <;> simp; omega
  rw [he]
  obtain ⟨pl, hpl⟩ : ∃ n, P.length = n := ⟨_, rfl⟩
  rw [hpl] at hn ⊢
  have pn : (pl : Int) ≤ 1000000 := by omega
  clear hZ hX hk hr hgk hc hn hl he hpl hXl
  go_enter Tryd.func65, Tryd.ntmps65
  go_wp2_with fail
  have HE9b : Hid ((((w.alloc (.cells Z 43)).alloc (.cells Z 43)).drew.setRow w.heap.size XA).heap[w.heap.size + 1]? = some (.cells Z 43 (0, 0))) := hide (arr_other (unhide HE9) (by omega))
  generalize (w.alloc (.cells Z 43)).alloc (.cells Z 43) = w1 at *
  refine wp_region_T (S := fun w' => w'.rangeAt gk 0 X) (fun _ => true) (by kernel_rfl) (show w1.drew.rangeAt gk 0 X from (World.rangeAt_drew _ _ _ _).2 (unhide HXR)) (fun hHeld => ?_)
  refine wpAnyT_take (i := 0) (oi := { dst := some 21, op := Op.move (Operand.tmp 0), type := 103, pos := "tree.go:104", after := #[], guard := none }) (v := .pointer (some ⟨gk, 0, none⟩)) rfl (by kernel_rfl) (by kernel_rfl) (by kernel_rfl) (by kernel_rfl) (fun _ _ _ h => h) (Or.inl ⟨by rfl, ?_⟩) hHeld ?_
  · intro w hSw
    first
      | rfl
      | (go_simp; done)
  try simp only [Act.put, List.setIfInBounds_toArray, List.set_cons_zero, List.set_cons_succ]
  refine wpAnyT_take (i := 1) (oi := { dst := some 22, op := Op.nilCheck (Operand.tmp 21), type := 0, pos := "tree.go:104", after := #[{ on := 0, ground := Ground.data }], guard := none }) (v := .pointer (some ⟨gk, 0, none⟩)) rfl (by kernel_rfl) (by kernel_rfl) (by kernel_rfl) (by kernel_rfl) (fun _ _ _ h => h) (Or.inl ⟨by rfl, ?_⟩) hHeld ?_
  · intro w hSw
    first
      | rfl
      | (go_simp; done)
  try simp only [Act.put, List.setIfInBounds_toArray, List.set_cons_zero, List.set_cons_succ]
  refine wpAnyT_take (i := 2) (oi := { dst := some 23, op := Op.load 43 (Operand.tmp 22), type := 43, pos := "tree.go:104", after := #[{ on := 1, ground := Ground.data }], guard := none }) (v := .agg X.toArray) rfl (by kernel_rfl) (by kernel_rfl) (by kernel_rfl) (by kernel_rfl) (fun _ _ _ h => h)
    (yieldsIf_load_mid (by rfl) _ _ rfl gk 0 rfl X _ (fun w h => h) Tryd.underlying43 rfl hiX) hHeld ?_
  try simp only [Act.put, List.setIfInBounds_toArray, List.set_cons_zero, List.set_cons_succ]
  refine wpAnyT_take (i := 3) (oi := { dst := some 24, op := Op.move (Operand.tmp 0), type := 103, pos := "tree.go:104", after := #[{ on := 9, ground := Ground.gcOnly Departure.lateStores }], guard := none }) (v := .pointer (some ⟨gk, 0, none⟩)) rfl (by kernel_rfl) (by kernel_rfl) (by kernel_rfl) (by kernel_rfl) (fun _ _ _ h => h) (Or.inl ⟨by rfl, ?_⟩) hHeld ?_
  · intro w hSw
    first
      | rfl
      | (go_simp; done)
  try simp only [Act.put, List.setIfInBounds_toArray, List.set_cons_zero, List.set_cons_succ]
  refine wpAnyT_take (i := 4) (oi := { dst := some 25, op := Op.nilCheck (Operand.tmp 24), type := 0, pos := "tree.go:104", after := #[{ on := 3, ground := Ground.data }, { on := 9, ground := Ground.gcOnly Departure.lateStores }], guard := none }) (v := .pointer (some ⟨gk, 0, none⟩)) rfl (by kernel_rfl) (by kernel_rfl) (by kernel_rfl) (by kernel_rfl) (fun _ _ _ h => h) (Or.inl ⟨by rfl, ?_⟩) hHeld ?_
  · intro w hSw
    first
      | rfl
      | (go_simp; done)
  try simp only [Act.put, List.setIfInBounds_toArray, List.set_cons_zero, List.set_cons_succ]
  refine wpAnyT_take (i := 5) (oi := { dst := some 26, op := Op.load 43 (Operand.tmp 25), type := 43, pos := "tree.go:104", after := #[{ on := 4, ground := Ground.data }, { on := 9, ground := Ground.gcOnly Departure.lateStores }], guard := none }) (v := .agg X.toArray) rfl (by kernel_rfl) (by kernel_rfl) (by kernel_rfl) (by kernel_rfl) (fun _ _ _ h => h)
    (yieldsIf_load_mid (by rfl) _ _ rfl gk 0 rfl X _ (fun w h => h) Tryd.underlying43 rfl hiX) hHeld ?_
  try simp only [Act.put, List.setIfInBounds_toArray, List.set_cons_zero, List.set_cons_succ]
  rw [hXA]
  refine wpAnyT_take (i := 6) (oi := { dst := some 27, op := Op.move (Operand.tmp 3), type := 54, pos := "tree.go:104", after := #[], guard := none }) (v := .slice a pl c) rfl (by kernel_rfl) (by kernel_rfl) (by kernel_rfl) (by kernel_rfl) (fun _ _ _ h => h) (Or.inl ⟨by rfl, ?_⟩) hHeld ?_
  · intro w hSw
    first
      | rfl
      | (go_simp; done)
  try simp only [Act.put, List.setIfInBounds_toArray, List.set_cons_zero, List.set_cons_succ]
  refine wpAnyT_take (i := 7) (oi := { dst := some 28, op := Op.call { callee := Callee.builtin Builtin.len, args := #[Operand.tmp 27], argTypes := #[54] }, type := 3, pos := "tree.go:104", after := #[{ on := 6, ground := Ground.data }], guard := none }) (v := .int .i64 (pl : Int)) rfl (by kernel_rfl) (by kernel_rfl) (by kernel_rfl) (by kernel_rfl) (fun _ _ _ h => h) (Or.inl ⟨by rfl, ?_⟩) hHeld ?_
  · intro w hSw
    first
      | rfl
      | (go_simp; done)
  try simp only [Act.put, List.setIfInBounds_toArray, List.set_cons_zero, List.set_cons_succ]
  refine wpAnyT_take (i := 8) (oi := { dst := some 29, op := Op.binOp BinOp.eql 3 (Operand.tmp 28) (Operand.const (Value.int IntKind.i64 0)) 3, type := 4, pos := "tree.go:104", after := #[{ on := 7, ground := Ground.data }, { on := 10, ground := Ground.gcOnly Departure.lateStores }], guard := none }) (v := .bool ((pl : Int) == 0)) rfl (by kernel_rfl) (by kernel_rfl) (by kernel_rfl) (by kernel_rfl) (fun _ _ _ h => h) (Or.inl ⟨by rfl, ?_⟩) hHeld ?_
  · intro w hSw
    first
      | rfl
      | (go_simp; done)
  try simp only [Act.put, List.setIfInBounds_toArray, List.set_cons_zero, List.set_cons_succ]
  refine wpAnyT_one (i := 9) (o := { dst := none, op := Op.store 43 (Operand.tmp 8) (Operand.tmp 23), type := 0, pos := "tree.go:104", after := #[{ on := 2, ground := Ground.data }, { on := 0, ground := Ground.phase }, { on := 1, ground := Ground.phase }, { on := 2, ground := Ground.phase }, { on := 3, ground := Ground.textOnly Departure.lateStores }, { on := 4, ground := Ground.textOnly Departure.lateStores }, { on := 5, ground := Ground.textOnly Departure.lateStores }, { on := 6, ground := Ground.textOnly Departure.lateStores }, { on := 7, ground := Ground.textOnly Departure.lateStoresUnsure }, { on := 8, ground := Ground.textOnly Departure.lateStores }], guard := none }) (by kernel_rfl) rfl (fun K hK => ?_)
  rw [if_pos (by rfl)]
  refine wp_store_row 43 _ _ rfl w.heap.size XA rfl rfl 43 Z (unhide HE8) (by rw [z27, unhide HXS]) (by rw [unhide HXS, unhide HZS]) (unhide HXO) ?_
  refine hK.out _ _ (fun _ => rangeAt_setRow hHeld (unhide HGK).1 _) ?_
  clear hK K
  try simp only [Act.put, List.setIfInBounds_toArray, List.set_cons_zero, List.set_cons_succ]
  have hHeld2 := rangeAt_setRow hHeld (unhide HGK).1 XA
  refine wpAnyT_one (i := 10) (o := { dst := none, op := Op.store 43 (Operand.tmp 9) (Operand.tmp 26), type := 0, pos := "tree.go:104", after := #[{ on := 5, ground := Ground.data }, { on := 9, ground := Ground.chain }, { on := 0, ground := Ground.phase }, { on := 1, ground := Ground.phase }, { on := 2, ground := Ground.phase }, { on := 3, ground := Ground.phase }, { on := 4, ground := Ground.phase }, { on := 5, ground := Ground.phase }, { on := 6, ground := Ground.textOnly Departure.lateStores }, { on := 7, ground := Ground.textOnly Departure.lateStoresUnsure }, { on := 8, ground := Ground.textOnly Departure.lateStores }, { on := 9, ground := Ground.phase }], guard := none }) (by kernel_rfl) rfl (fun K hK => ?_)
  rw [if_pos (by rfl)]
  refine wp_store_row 43 _ _ rfl (w.heap.size + 1) XA rfl rfl 43 Z (unhide HE9b) (by rw [z27, unhide HXS]) (by rw [unhide HXS, unhide HZS]) (unhide HXO) ?_
  refine hK.out _ _ (fun _ => rangeAt_setRow hHeld2 (unhide HGK).2 _) ?_
  clear hK K
  try simp only [Act.put, List.setIfInBounds_toArray, List.set_cons_zero, List.set_cons_succ]
  have hHeld3 := rangeAt_setRow hHeld2 (unhide HGK).2 XA
  refine wpAnyT_take (i := 11) (oi := { dst := some 10, op := Op.assign (Operand.tmp 29), type := 4, pos := "tree.go:104", after := #[{ on := 8, ground := Ground.data }, { on := 10, ground := Ground.chain }, { on := 0, ground := Ground.phase }, { on := 1, ground := Ground.phase }, { on := 2, ground := Ground.phase }, { on := 3, ground := Ground.phase }, { on := 4, ground := Ground.phase }, { on := 5, ground := Ground.phase }, { on := 6, ground := Ground.phase }, { on := 7, ground := Ground.phase }, { on := 8, ground := Ground.phase }, { on := 9, ground := Ground.phase }, { on := 10, ground := Ground.phase }], guard := none }) (v := .bool ((pl : Int) == 0)) rfl (by kernel_rfl) (by kernel_rfl) (by kernel_rfl) (by kernel_rfl) (fun _ _ _ h => h) (Or.inl ⟨by rfl, ?_⟩) hHeld3 ?_
  · intro w hSw
    first
      | rfl
      | (go_simp; done)
  try simp only [Act.put, List.setIfInBounds_toArray, List.set_cons_zero, List.set_cons_succ]
  refine wpAnyT_done (by kernel_rfl) ?_ _
  go_wp2_with fail
  refine bodyPost_ret (results_row_row_tmp Tryd.results65 _ _ w.heap.size (w.heap.size + 1) 43 43 XA XA (0, 0) (0, 0) _ rfl rfl (arr_other (setRow_heap _ _ _ _ _ _ (unhide HE8)) (by omega)) (setRow_heap _ _ _ _ _ _ (unhide HE9b)) Tryd.underlying43 rfl (by rw [z27, unhide HXS]) (by rw [z27, unhide HXS])) rfl ⟨rfl, ?_⟩
  exact Below.setRow (Below.setRow (unhide HB1).drew _ _ (Nat.le_refl _)) _ _ (by omega)
set_option maxRecDepth 100000 in
set_option maxHeartbeats 8000000 in
theorem lb_nilnone (m : Nat) (v : Value) (w : World) (hP : PS w v []) :
    Calls Tryd.prog 65 #[.pointer none, .int .i64 (m : Int), .int .i64 (m : Int), v] w fun e w' => e = .returned (.tuple #[.agg (bv zs32).toArray, .agg (bv zs32).toArray, .bool false]) ∧ Below w.heap.size w w' := by
  unfold zs32
  have hz := zero27
  generalize hZ : (bv (List.replicate 32 0)).toArray = Z at hz
  have HZE := hide hZ
  have HZS : Hid (Z.size = 32) := hide (by rw [← hZ, List.size_toArray, bv_len, List.length_replicate])
  have HZO : Hid (Z.all (·.oneCell') = true) := hide (hZ ▸ one_bv _)
  have HB1 : Hid (Below w.heap.size w ((w.alloc (.cells Z 43)).alloc (.cells Z 43))) := hide (by
    have b0 : Below w.heap.size w (w.alloc (.cells Z 43)) := (Below.refl _ _).alloc (Nat.le_refl _) _
    exact b0.alloc b0.size _)
  have HE8 : Hid (((w.alloc (.cells Z 43)).alloc (.cells Z 43)).heap[w.heap.size]? = some (.cells Z 43 (0, 0))) := hide (by
    have r0 : RowAt (w.alloc (.cells Z 43)) w.heap.size 43 (bv (List.replicate 32 0)) := hZ ▸ RowAt.new w 43 _
    have bx : Below (w.alloc (.cells Z 43)).heap.size (w.alloc (.cells Z 43)) ((w.alloc (.cells Z 43)).alloc (.cells Z 43)) := (Below.refl _ _).alloc (Nat.le_refl _) _
    exact (r0.below bx r0.lt).arr hZ)
  have HE9 : Hid (((w.alloc (.cells Z 43)).alloc (.cells Z 43)).heap[w.heap.size + 1]? = some (.cells Z 43 (0, 0))) := hide (by
    have := RowAt.new (w.alloc (.cells Z 43)) 43 (bv (List.replicate 32 0))
    rw [hZ, size_alloc] at this
    exact this.arr hZ)
  have HS1 : Hid (((w.alloc (.cells Z 43)).alloc (.cells Z 43)).heap.size = w.heap.size + 2) := hide (by rw [size_alloc, size_alloc])
  obtain ⟨a, c, rfl, hc, _, _, _⟩ := hP
  rw [List.length_nil]
  clear hZ
  go_enter Tryd.func65, Tryd.ntmps65
  have HE9b : Hid ((((w.alloc (.cells Z 43)).alloc (.cells Z 43)).setRow w.heap.size Z).heap[w.heap.size + 1]? = some (.cells Z 43 (0, 0))) := hide (arr_other (unhide HE9) (by omega))
  go_wp2_with (first
    | (refine wpList_store_row rfl 43 _ _ rfl w.heap.size Z rfl rfl 43 Z (unhide HE8) (by rw [z27, unhide HZS]) rfl (unhide HZO) ?_)
    | (refine wpList_store_row rfl 43 _ _ rfl (w.heap.size + 1) Z rfl rfl 43 Z (unhide HE9b) (by rw [z27, unhide HZS]) rfl (unhide HZO) ?_))
  refine bodyPost_ret (results_row_row_tmp Tryd.results65 _ _ w.heap.size (w.heap.size + 1) 43 43 Z Z (0, 0) (0, 0) _ rfl rfl (arr_other (setRow_heap _ _ _ _ _ _ (unhide HE8)) (by omega)) (setRow_heap _ _ _ _ _ _ (unhide HE9b)) Tryd.underlying43 rfl (by rw [z27, unhide HZS]) (by rw [z27, unhide HZS])) rfl ⟨rfl, ?_⟩
  exact Below.setRow (Below.setRow (unhide HB1) _ _ (Nat.le_refl _)) _ _ (by omega)
set_option maxRecDepth 100000 in
set_option maxHeartbeats 8000000 in
theorem lb_none (kp : Value) (m n : Nat) (v : Value) (w : World) (hm : ¬ m = n) (hP : PS w v []) :
    Calls Tryd.prog 65 #[kp, .int .i64 (m : Int), .int .i64 (n : Int), v] w fun e w' => e = .returned (.tuple #[.agg (bv zs32).toArray, .agg (bv zs32).toArray, .bool false]) ∧ Below w.heap.size w w' := by
  unfold zs32
  have hz := zero27
  generalize hZ : (bv (List.replicate 32 0)).toArray = Z at hz
  have HZE := hide hZ
  have HZS : Hid (Z.size = 32) := hide (by rw [← hZ, List.size_toArray, bv_len, List.length_replicate])
  have HZO : Hid (Z.all (·.oneCell') = true) := hide (hZ ▸ one_bv _)
  have HB1 : Hid (Below w.heap.size w ((w.alloc (.cells Z 43)).alloc (.cells Z 43))) := hide (by
    have b0 : Below w.heap.size w (w.alloc (.cells Z 43)) := (Below.refl _ _).alloc (Nat.le_refl _) _
    exact b0.alloc b0.size _)
  have HE8 : Hid (((w.alloc (.cells Z 43)).alloc (.cells Z 43)).heap[w.heap.size]? = some (.cells Z 43 (0, 0))) := hide (by
    have r0 : RowAt (w.alloc (.cells Z 43)) w.heap.size 43 (bv (List.replicate 32 0)) := hZ ▸ RowAt.new w 43 _
    have bx : Below (w.alloc (.cells Z 43)).heap.size (w.alloc (.cells Z 43)) ((w.alloc (.cells Z 43)).alloc (.cells Z 43)) := (Below.refl _ _).alloc (Nat.le_refl _) _
    exact (r0.below bx r0.lt).arr hZ)
  have HE9 : Hid (((w.alloc (.cells Z 43)).alloc (.cells Z 43)).heap[w.heap.size + 1]? = some (.cells Z 43 (0, 0))) := hide (by
    have := RowAt.new (w.alloc (.cells Z 43)) 43 (bv (List.replicate 32 0))
    rw [hZ, size_alloc] at this
    exact this.arr hZ)
  have HS1 : Hid (((w.alloc (.cells Z 43)).alloc (.cells Z 43)).heap.size = w.heap.size + 2) := hide (by rw [size_alloc, size_alloc])
  obtain ⟨a, c, rfl, hc, _, _, _⟩ := hP
  rw [List.length_nil]
  have mn : ((m : Int) == (n : Int)) = false := beq_eq_false_iff_ne.2 (by omega)
  have mn2 : ¬ (m : Int) = (n : Int) := by omega
  clear hZ hm
  go_enter Tryd.func65, Tryd.ntmps65
  have HE9b : Hid ((((w.alloc (.cells Z 43)).alloc (.cells Z 43)).setRow w.heap.size Z).heap[w.heap.size + 1]? = some (.cells Z 43 (0, 0))) := hide (arr_other (unhide HE9) (by omega))
  go_wp2_with (first
    | (refine wpList_store_row rfl 43 _ _ rfl w.heap.size Z rfl rfl 43 Z (unhide HE8) (by rw [z27, unhide HZS]) rfl (unhide HZO) ?_)
    | (refine wpList_store_row rfl 43 _ _ rfl (w.heap.size + 1) Z rfl rfl 43 Z (unhide HE9b) (by rw [z27, unhide HZS]) rfl (unhide HZO) ?_))
  refine bodyPost_ret (results_row_row_tmp Tryd.results65 _ _ w.heap.size (w.heap.size + 1) 43 43 Z Z (0, 0) (0, 0) _ rfl rfl (arr_other (setRow_heap _ _ _ _ _ _ (unhide HE8)) (by omega)) (setRow_heap _ _ _ _ _ _ (unhide HE9b)) Tryd.underlying43 rfl (by rw [z27, unhide HZS]) (by rw [z27, unhide HZS])) rfl ⟨rfl, ?_⟩
  exact Below.setRow (Below.setRow (unhide HB1) _ _ (Nat.le_refl _)) _ _ (by omega)
set_option maxRecDepth 100000 in
set_option maxHeartbeats 8000000 in
theorem lb_last (m : Nat) (P : List (List Nat)) (y : List Nat) (v : Value) (w : World) (hlast : P.getLast? = some y) (hP : PS w v P) :
    Calls Tryd.prog 65 #[.pointer none, .int .i64 (m : Int), .int .i64 (m : Int), v] w fun e w' => e = .returned (.tuple #[.agg (bv y).toArray, .agg (bv y).toArray, .bool P.dropLast.isEmpty]) ∧ Below w.heap.size w w' := by
  obtain ⟨a, c, rfl, hc, hp1, hp2, hS⟩ := id hP
  have hne : P ≠ [] := fun e => by subst e; cases hlast
  rcases hS with hS | ⟨g, o, rfl, hS⟩
  · exact absurd hS hne
  have hy : P[P.length - 1]? = some y := by rw [← List.getLast?_eq_getElem?]; exact hlast
  have y1 : y.length = 32 := (hp2 y (List.mem_of_getElem? hy)).1
  have y8 : U8 y := (hp2 y (List.mem_of_getElem? hy)).2
  have HCT := hide (p := ∀ w', Below w.heap.size w w' → _) (fun w' hw' => cut_any g o P.length c P y w' (List.length_pos_iff.2 hne) hp1 hc (hS.call hw') hy)
  have hp0 := List.length_pos_iff.2 hne
  have hz := zero27
  generalize hZ : (bv (List.replicate 32 0)).toArray = Z at hz
  have HZE := hide hZ
  have HZS : Hid (Z.size = 32) := hide (by rw [← hZ, List.size_toArray, bv_len, List.length_replicate])
  have HZO : Hid (Z.all (·.oneCell') = true) := hide (hZ ▸ one_bv _)
  have HB1 : Hid (Below w.heap.size w ((w.alloc (.cells Z 43)).alloc (.cells Z 43))) := hide (by
    have b0 : Below w.heap.size w (w.alloc (.cells Z 43)) := (Below.refl _ _).alloc (Nat.le_refl _) _
    exact b0.alloc b0.size _)
  have HE8 : Hid (((w.alloc (.cells Z 43)).alloc (.cells Z 43)).heap[w.heap.size]? = some (.cells Z 43 (0, 0))) := hide (by
    have r0 : RowAt (w.alloc (.cells Z 43)) w.heap.size 43 (bv (List.replicate 32 0)) := hZ ▸ RowAt.new w 43 _
    have bx : Below (w.alloc (.cells Z 43)).heap.size (w.alloc (.cells Z 43)) ((w.alloc (.cells Z 43)).alloc (.cells Z 43)) := (Below.refl _ _).alloc (Nat.le_refl _) _
    exact (r0.below bx r0.lt).arr hZ)
  have HE9 : Hid (((w.alloc (.cells Z 43)).alloc (.cells Z 43)).heap[w.heap.size + 1]? = some (.cells Z 43 (0, 0))) := hide (by
    have := RowAt.new (w.alloc (.cells Z 43)) 43 (bv (List.replicate 32 0))
    rw [hZ, size_alloc] at this
    exact this.arr hZ)
  have HS1 : Hid (((w.alloc (.cells Z 43)).alloc (.cells Z 43)).heap.size = w.heap.size + 2) := hide (by rw [size_alloc, size_alloc])
  obtain ⟨YL, hYL⟩ : ∃ X, bv y = X := ⟨_, rfl⟩
  have hiY : (Tryd.prog.info? 43).map (·.size) = some YL.length := hYL ▸ size43 y1
  obtain ⟨YA, hYA⟩ : ∃ A, YL.toArray = A := ⟨_, rfl⟩
  have HYO : Hid (YA.all (·.oneCell') = true) := hide (hYA ▸ hYL ▸ one_bv y)
  have HYS : Hid (YA.size = 32) := hide (by rw [← hYA, List.size_toArray, ← hYL, bv_len, y1])
  rw [hYL, hYA] at HCT
  rw [hYL, hYA]
  have he : P.dropLast.isEmpty = (((P.length - 1 : Nat) : Int) == 0) := by
    have hd : P.dropLast.length = P.length - 1 := List.length_dropLast
    rw [← hd]
    cases P.dropLast <;> simp; omega
  rw [he]
  obtain ⟨pl, hpl⟩ : ∃ n, P.length = n := ⟨_, rfl⟩
  rw [hpl] at HCT hp0 hp1 ⊢
  have pn : ((pl : Int) == 0) = false := beq_eq_false_iff_ne.2 (by omega)
  have pn2 : ¬ (pl : Int) = 0 := by omega
  have pn3 : ((pl - 1 : Nat) : Int) = (pl : Int) - 1 := by omega
  have pn4 : (pl : Int) ≤ 1000000 := by omega
  clear hZ hlast hP hne hS hy y1 y8 hp0 hp1 hp2 hc he hpl hYL
  go_enter Tryd.func65, Tryd.ntmps65
  go_wp2_with fail
  generalize (w.alloc (.cells Z 43)).alloc (.cells Z 43) = w1 at *
  refine Calls.mono (unhide HCT _ (unhide HB1)) ?_
  rintro e w2 ⟨rfl, b2⟩
  have HB2 := hide ((unhide HB1).trans (b2.mono (unhide HB1).size))
  have b2a := b2.alloc b2.size (.cells YA 43)
  have HB3 := hide ((unhide HB2).alloc (unhide HB2).size (.cells YA 43))
  have HE8c : Hid ((w2.alloc (.cells YA 43)).heap[w.heap.size]? = some (.cells Z 43 (0, 0))) := hide ((b2a.block _ (by have := unhide HS1; omega)).trans (unhide HE8))
  have HE9c : Hid ((w2.alloc (.cells YA 43)).heap[w.heap.size + 1]? = some (.cells Z 43 (0, 0))) := hide ((b2a.block _ (by have := unhide HS1; omega)).trans (unhide HE9))
  have HR12 : Hid (RowAt (w2.alloc (.cells YA 43)) w2.heap.size 43 YL) := hide (hYA ▸ RowAt.new w2 43 YL)
  have HG12 : Hid (w.heap.size + 2 ≤ w2.heap.size) := hide (by have := b2.size; have := unhide HS1; omega)
  clear b2 b2a HCT
  go_wp2_with (refine wpList_store_new rfl 43 _ _ rfl YA rfl rfl (by rw [z27, unhide HYS]) (by rw [unhide HYS, unhide HZS]) (unhide HYO) ?_)
  have HE9d : Hid (((w2.alloc (.cells YA 43)).drew.setRow w.heap.size YA).heap[w.heap.size + 1]? = some (.cells Z 43 (0, 0))) := hide (arr_other (unhide HE9c) (by omega))
  obtain ⟨g12, hg12⟩ : ∃ g, w2.heap.size = g := ⟨_, rfl⟩
  rw [hg12] at HR12 HG12 ⊢
  have HGK : Hid (g12 ≠ w.heap.size ∧ g12 ≠ w.heap.size + 1) := hide ⟨by have := unhide HG12; omega, by have := unhide HG12; omega⟩
  generalize w2.alloc (.cells YA 43) = w3 at *
  refine wp_region_T (S := fun w' => w'.rangeAt g12 0 YL) (fun _ => true) (by kernel_rfl) (show w3.drew.rangeAt g12 0 YL from (World.rangeAt_drew _ _ _ _).2 (unhide HR12).range) (fun hHeld => ?_)
  refine wpAnyT_take (i := 0) (oi := { dst := some 43, op := Op.load 43 (Operand.tmp 12), type := 43, pos := "tree.go:111", after := #[], guard := none }) (v := .agg YL.toArray) rfl (by kernel_rfl) (by kernel_rfl) (by kernel_rfl) (by kernel_rfl) (fun _ _ _ h => h)
    (yieldsIf_load_mid (by rfl) _ _ rfl g12 0 rfl YL _ (fun w h => h) Tryd.underlying43 rfl hiY) hHeld ?_
  try simp only [Act.put, List.setIfInBounds_toArray, List.set_cons_zero, List.set_cons_succ]
  refine wpAnyT_take (i := 1) (oi := { dst := some 44, op := Op.load 43 (Operand.tmp 12), type := 43, pos := "tree.go:111", after := #[{ on := 5, ground := Ground.gcOnly Departure.lateStores }], guard := none }) (v := .agg YL.toArray) rfl (by kernel_rfl) (by kernel_rfl) (by kernel_rfl) (by kernel_rfl) (fun _ _ _ h => h)
    (yieldsIf_load_mid (by rfl) _ _ rfl g12 0 rfl YL _ (fun w h => h) Tryd.underlying43 rfl hiY) hHeld ?_
  try simp only [Act.put, List.setIfInBounds_toArray, List.set_cons_zero, List.set_cons_succ]
  rw [hYA]
  refine wpAnyT_take (i := 2) (oi := { dst := some 45, op := Op.move (Operand.tmp 11), type := 54, pos := "tree.go:111", after := #[], guard := none }) (v := .slice (some ⟨g, o, none⟩) (pl - 1) c) rfl (by kernel_rfl) (by kernel_rfl) (by kernel_rfl) (by kernel_rfl) (fun _ _ _ h => h) (Or.inl ⟨by rfl, ?_⟩) hHeld ?_
  · intro w hSw
    first
      | rfl
      | (go_simp; done)
  try simp only [Act.put, List.setIfInBounds_toArray, List.set_cons_zero, List.set_cons_succ]
  refine wpAnyT_take (i := 3) (oi := { dst := some 46, op := Op.call { callee := Callee.builtin Builtin.len, args := #[Operand.tmp 45], argTypes := #[54] }, type := 3, pos := "tree.go:111", after := #[{ on := 2, ground := Ground.data }], guard := none }) (v := .int .i64 ((pl - 1 : Nat) : Int)) rfl (by kernel_rfl) (by kernel_rfl) (by kernel_rfl) (by kernel_rfl) (fun _ _ _ h => h) (Or.inl ⟨by rfl, ?_⟩) hHeld ?_
  · intro w hSw
    first
      | rfl
      | (go_simp; done)
  try simp only [Act.put, List.setIfInBounds_toArray, List.set_cons_zero, List.set_cons_succ]
  refine wpAnyT_take (i := 4) (oi := { dst := some 47, op := Op.binOp BinOp.eql 3 (Operand.tmp 46) (Operand.const (Value.int IntKind.i64 0)) 3, type := 4, pos := "tree.go:111", after := #[{ on := 3, ground := Ground.data }, { on := 6, ground := Ground.gcOnly Departure.lateStores }], guard := none }) (v := .bool (((pl - 1 : Nat) : Int) == 0)) rfl (by kernel_rfl) (by kernel_rfl) (by kernel_rfl) (by kernel_rfl) (fun _ _ _ h => h) (Or.inl ⟨by rfl, ?_⟩) hHeld ?_
  · intro w hSw
    first
      | rfl
      | (go_simp; done)
  try simp only [Act.put, List.setIfInBounds_toArray, List.set_cons_zero, List.set_cons_succ]
  refine wpAnyT_one (i := 5) (o := { dst := none, op := Op.store 43 (Operand.tmp 8) (Operand.tmp 43), type := 0, pos := "tree.go:111", after := #[{ on := 0, ground := Ground.data }, { on := 0, ground := Ground.phase }, { on := 1, ground := Ground.textOnly Departure.lateStores }, { on := 2, ground := Ground.textOnly Departure.lateStores }, { on := 3, ground := Ground.textOnly Departure.lateStoresUnsure }, { on := 4, ground := Ground.textOnly Departure.lateStores }], guard := none }) (by kernel_rfl) rfl (fun K hK => ?_)
  rw [if_pos (by rfl)]
  refine wp_store_row 43 _ _ rfl w.heap.size YA rfl rfl 43 Z (unhide HE8c) (by rw [z27, unhide HYS]) (by rw [unhide HYS, unhide HZS]) (unhide HYO) ?_
  refine hK.out _ _ (fun _ => rangeAt_setRow hHeld (unhide HGK).1 _) ?_
  clear hK K
  try simp only [Act.put, List.setIfInBounds_toArray, List.set_cons_zero, List.set_cons_succ]
  have hHeld2 := rangeAt_setRow hHeld (unhide HGK).1 YA
  refine wpAnyT_one (i := 6) (o := { dst := none, op := Op.store 43 (Operand.tmp 9) (Operand.tmp 44), type := 0, pos := "tree.go:111", after := #[{ on := 1, ground := Ground.data }, { on := 5, ground := Ground.chain }, { on := 0, ground := Ground.phase }, { on := 1, ground := Ground.phase }, { on := 2, ground := Ground.textOnly Departure.lateStores }, { on := 3, ground := Ground.textOnly Departure.lateStoresUnsure }, { on := 4, ground := Ground.textOnly Departure.lateStores }, { on := 5, ground := Ground.phase }], guard := none }) (by kernel_rfl) rfl (fun K hK => ?_)
  rw [if_pos (by rfl)]
  refine wp_store_row 43 _ _ rfl (w.heap.size + 1) YA rfl rfl 43 Z (unhide HE9d) (by rw [z27, unhide HYS]) (by rw [unhide HYS, unhide HZS]) (unhide HYO) ?_
  refine hK.out _ _ (fun _ => rangeAt_setRow hHeld2 (unhide HGK).2 _) ?_
  clear hK K
  try simp only [Act.put, List.setIfInBounds_toArray, List.set_cons_zero, List.set_cons_succ]
  have hHeld3 := rangeAt_setRow hHeld2 (unhide HGK).2 YA
  refine wpAnyT_take (i := 7) (oi := { dst := some 10, op := Op.assign (Operand.tmp 47), type := 4, pos := "tree.go:111", after := #[{ on := 4, ground := Ground.data }, { on := 6, ground := Ground.chain }, { on := 0, ground := Ground.phase }, { on := 1, ground := Ground.phase }, { on := 2, ground := Ground.phase }, { on := 3, ground := Ground.phase }, { on := 4, ground := Ground.phase }, { on := 5, ground := Ground.phase }, { on := 6, ground := Ground.phase }], guard := none }) (v := .bool (((pl - 1 : Nat) : Int) == 0)) rfl (by kernel_rfl) (by kernel_rfl) (by kernel_rfl) (by kernel_rfl) (fun _ _ _ h => h) (Or.inl ⟨by rfl, ?_⟩) hHeld3 ?_
  · intro w hSw
    first
      | rfl
      | (go_simp; done)
  try simp only [Act.put, List.setIfInBounds_toArray, List.set_cons_zero, List.set_cons_succ]
  refine wpAnyT_done (by kernel_rfl) ?_ _
  go_wp2_with fail
  refine bodyPost_ret (results_row_row_tmp Tryd.results65 _ _ w.heap.size (w.heap.size + 1) 43 43 YA YA (0, 0) (0, 0) _ rfl rfl (arr_other (setRow_heap _ _ _ _ _ _ (unhide HE8c)) (by omega)) (setRow_heap _ _ _ _ _ _ (unhide HE9d)) Tryd.underlying43 rfl (by rw [z27, unhide HYS]) (by rw [z27, unhide HYS])) rfl ⟨rfl, ?_⟩
  exact Below.setRow (Below.setRow (unhide HB3).drew _ _ (Nat.le_refl _)) _ _ (by omega)
set_option maxRecDepth 100000 in
set_option maxHeartbeats 8000000 in
theorem leadB_any : ∀ (n : Nat) (known : Option (List Nat)) (m : Nat) (P : List (List Nat)) (kp v : Value) (w : World), Tabs w → 1 ≤ m → m ≤ n → n ≤ 1099511627776 → PS w v P → KP w kp known →
    Calls Tryd.prog 65 #[kp, .int .i64 (m : Int), .int .i64 (n : Int), v] w fun e w' => e = .returned (.tuple #[.agg (bv (leadB known m n P).1).toArray, .agg (bv (leadB known m n P).2.1).toArray, .bool (leadB known m n P).2.2]) ∧ Below w.heap.size w w' := by
  intro n
  induction n using Nat.strongRecOn with
  | _ n ih =>
  intro known m P kp v w hT hm1 hmle hn hP hK
  by_cases hmn : m = n
  · subst hmn
    cases known with
    | some k =>
      obtain ⟨⟨h1, h8⟩, g, rfl, hr⟩ := hK
      rw [leadB_known]
      exact lb_known k g m P v w h1 hr hP
    | none =>
      obtain rfl : kp = .pointer none := hK
      cases hlast : P.getLast? with
      | none =>
        obtain rfl := List.getLast?_eq_none_iff.1 hlast
        rw [leadB_none (by simp)]
        exact lb_nilnone m v w hP
      | some y =>
        rw [leadB_last hlast]
        exact lb_last m P y v w hlast hP
  cases hlast : P.getLast? with
  | none =>
    obtain rfl := List.getLast?_eq_none_iff.1 hlast
    rw [leadB_none (fun e => hmn e.1)]
    exact lb_none kp m n v w hmn hP
  | some y =>
  have h2 : 2 ≤ n := by omega
  have hh := half_lt h2
  have hhp := half_pos n
  have HHF := hide (fun w => half_any n w h2 hn)
  have mn : ((m : Int) == (n : Int)) = false := beq_eq_false_iff_ne.2 (by omega)
  have mn2 : ¬ (m : Int) = (n : Int) := by omega
  obtain ⟨a, c, rfl, hc, hp1, hp2, hS⟩ := id hP
  have hne : P ≠ [] := fun e => by subst e; cases hlast
  rcases hS with hS | ⟨g, o, rfl, hS⟩
  · exact absurd hS hne
  have hy : P[P.length - 1]? = some y := by rw [← List.getLast?_eq_getElem?]; exact hlast
  have y1 : y.length = 32 := (hp2 y (List.mem_of_getElem? hy)).1
  have y8 : U8 y := (hp2 y (List.mem_of_getElem? hy)).2
  have HCT := hide (p := ∀ w', Below w.heap.size w w' → _) (fun w' hw' => cut_any g o P.length c P y w' (List.length_pos_iff.2 hne) hp1 hc (hS.call hw') hy)
  have hp0 := List.length_pos_iff.2 hne
  have hz := zero27
  generalize hZ : (bv (List.replicate 32 0)).toArray = Z at hz
  have HZE := hide hZ
  have HZS : Hid (Z.size = 32) := hide (by rw [← hZ, List.size_toArray, bv_len, List.length_replicate])
  have HZO : Hid (Z.all (·.oneCell') = true) := hide (hZ ▸ one_bv _)
  have HB1 : Hid (Below w.heap.size w ((w.alloc (.cells Z 43)).alloc (.cells Z 43))) := hide (by
    have b0 : Below w.heap.size w (w.alloc (.cells Z 43)) := (Below.refl _ _).alloc (Nat.le_refl _) _
    exact b0.alloc b0.size _)
  have HE8 : Hid (((w.alloc (.cells Z 43)).alloc (.cells Z 43)).heap[w.heap.size]? = some (.cells Z 43 (0, 0))) := hide (by
    have r0 : RowAt (w.alloc (.cells Z 43)) w.heap.size 43 (bv (List.replicate 32 0)) := hZ ▸ RowAt.new w 43 _
    have bx : Below (w.alloc (.cells Z 43)).heap.size (w.alloc (.cells Z 43)) ((w.alloc (.cells Z 43)).alloc (.cells Z 43)) := (Below.refl _ _).alloc (Nat.le_refl _) _
    exact (r0.below bx r0.lt).arr hZ)
  have HE9 : Hid (((w.alloc (.cells Z 43)).alloc (.cells Z 43)).heap[w.heap.size + 1]? = some (.cells Z 43 (0, 0))) := hide (by
    have := RowAt.new (w.alloc (.cells Z 43)) 43 (bv (List.replicate 32 0))
    rw [hZ, size_alloc] at this
    exact this.arr hZ)
  have HS1 : Hid (((w.alloc (.cells Z 43)).alloc (.cells Z 43)).heap.size = w.heap.size + 2) := hide (by rw [size_alloc, size_alloc])
  obtain ⟨YL, hYL⟩ : ∃ X, bv y = X := ⟨_, rfl⟩
  have hiY : (Tryd.prog.info? 43).map (·.size) = some YL.length := hYL ▸ size43 y1
  obtain ⟨YA, hYA⟩ : ∃ A, YL.toArray = A := ⟨_, rfl⟩
  have HYO : Hid (YA.all (·.oneCell') = true) := hide (hYA ▸ hYL ▸ one_bv y)
  have HYS : Hid (YA.size = 32) := hide (by rw [← hYA, List.size_toArray, ← hYL, bv_len, y1])
  rw [hYL, hYA] at HCT
  by_cases hik : m ≤ half n
  · have HIH := hide (p := ∀ w', Below w.heap.size w w' → _) (fun w' hw' => (fun hp' => ih (half n) (by omega) known m P.dropLast kp _ w' (hT.below hw') (by omega) (by omega) (by omega) hp' (hK.call hw')) ((PS.drop hP rfl).call hw'))
    rw [leadB_low hmn h2 hlast hik]
    have hok := leadB_ok (half n) known m P.dropLast hK.ok (fun s hs => hp2 s (List.mem_of_mem_take (by rw [← List.dropLast_eq_take]; exact hs)))
    obtain ⟨D1, hD1⟩ : ∃ L, (leadB known m (half n) P.dropLast).1 = L := ⟨_, rfl⟩
    obtain ⟨D2, hD2⟩ : ∃ L, (leadB known m (half n) P.dropLast).2.1 = L := ⟨_, rfl⟩
    obtain ⟨bb, hbb⟩ : ∃ b, (leadB known m (half n) P.dropLast).2.2 = b := ⟨_, rfl⟩
    rw [hD1, hD2] at hok
    rw [hD1, hD2, hbb] at HIH ⊢
    obtain ⟨⟨l1, l8⟩, m1, m8⟩ := hok
    have hKN := fun w' (hw' : Below w.heap.size w w') => knot_any D2 y w' (hT.below hw') m1 y1 m8 y8
    obtain ⟨KD, hKD⟩ : ∃ K, knotL D2 y = K := ⟨_, rfl⟩
    rw [hKD] at hKN ⊢
    have HKL : Hid (KD.length = 32) := hide (by rw [← hKD, knotL_len])
    obtain ⟨L1, hL1⟩ : ∃ X, bv D1 = X := ⟨_, rfl⟩
    obtain ⟨L2, hL2⟩ : ∃ X, bv D2 = X := ⟨_, rfl⟩
    have hi1 : (Tryd.prog.info? 43).map (·.size) = some L1.length := hL1 ▸ size43 l1
    have hi2 : (Tryd.prog.info? 43).map (·.size) = some L2.length := hL2 ▸ size43 m1
    obtain ⟨L1A, hL1A⟩ : ∃ A, L1.toArray = A := ⟨_, rfl⟩
    obtain ⟨L2A, hL2A⟩ : ∃ A, L2.toArray = A := ⟨_, rfl⟩
    have HL1O : Hid (L1A.all (·.oneCell') = true) := hide (hL1A ▸ hL1 ▸ one_bv D1)
    have HL2O : Hid (L2A.all (·.oneCell') = true) := hide (hL2A ▸ hL2 ▸ one_bv D2)
    have HL1S : Hid (L1A.size = 32) := hide (by rw [← hL1A, List.size_toArray, ← hL1, bv_len, l1])
    have HL2S : Hid (L2A.size = 32) := hide (by rw [← hL2A, List.size_toArray, ← hL2, bv_len, m1])
    obtain ⟨KA, hKA⟩ : ∃ A, (bv KD).toArray = A := ⟨_, rfl⟩
    have HKS : Hid (KA.size = 32) := hide (by rw [← hKA, List.size_toArray, bv_len, unhide HKL])
    have HKO : Hid (KA.all (·.oneCell') = true) := hide (hKA ▸ one_bv _)
    rw [hL1, hL1A, hL2, hL2A] at HIH
    rw [hL2, hL2A, hYL, hYA, hKA] at hKN
    rw [hL1, hL1A, hKA]
    have HKNo := hide hKN
    obtain ⟨k, hk⟩ : ∃ k, half n = k := ⟨_, rfl⟩
    rw [hk] at HHF HIH hh hhp hik
    have nI : (n : Int) ≤ 1099511627776 := by omega
    have kI : (k : Int) < (n : Int) := by omega
    have k1 : (1 : Int) ≤ (k : Int) := by omega
    have mk : (m : Int) ≤ (k : Int) := by omega
    have mI : (m : Int) ≤ (n : Int) := by omega
    obtain ⟨pl, hpl⟩ : ∃ n, P.length = n := ⟨_, rfl⟩
    rw [hpl] at HCT HIH hp0 hp1 ⊢
    have pn : ((pl : Int) == 0) = false := beq_eq_false_iff_ne.2 (by omega)
    have pn2 : ¬ (pl : Int) = 0 := by omega
    clear hZ hlast hP hne hS hy y1 y8 hp0 hp1 hp2 hc hpl hYL ih hT hn hmle hm1 hmn h2 hh hhp hik hk hKD hD1 hD2 hbb l1 l8 m1 m8 hL1 hL2 hKA hKN hK
    go_enter Tryd.func65, Tryd.ntmps65
    go_wp2_with fail
    generalize (w.alloc (.cells Z 43)).alloc (.cells Z 43) = w1 at *
    refine Calls.mono (unhide HCT _ (unhide HB1)) ?_
    rintro e w2 ⟨rfl, b2⟩
    have HB2 := hide ((unhide HB1).trans (b2.mono (unhide HB1).size))
    have b2a := b2.alloc b2.size (.cells YA 43)
    have HB3 := hide ((unhide HB2).alloc (unhide HB2).size (.cells YA 43))
    have HE8c : Hid ((w2.alloc (.cells YA 43)).heap[w.heap.size]? = some (.cells Z 43 (0, 0))) := hide ((b2a.block _ (by have := unhide HS1; omega)).trans (unhide HE8))
    have HE9c : Hid ((w2.alloc (.cells YA 43)).heap[w.heap.size + 1]? = some (.cells Z 43 (0, 0))) := hide ((b2a.block _ (by have := unhide HS1; omega)).trans (unhide HE9))
    have HR12 : Hid (RowAt (w2.alloc (.cells YA 43)) w2.heap.size 43 YL) := hide (hYA ▸ RowAt.new w2 43 YL)
    have HG12 : Hid (w.heap.size + 2 ≤ w2.heap.size) := hide (by have := b2.size; have := unhide HS1; omega)
    clear b2 b2a HCT
    go_wp2_with (refine wpList_store_new rfl 43 _ _ rfl YA rfl rfl (by rw [z27, unhide HYS]) (by rw [unhide HYS, unhide HZS]) (unhide HYO) ?_)
    obtain ⟨g12, hg12⟩ : ∃ g, w2.heap.size = g := ⟨_, rfl⟩
    rw [hg12] at HR12 HG12 ⊢
    generalize w2.alloc (.cells YA 43) = w3 at *
    refine Calls.mono (unhide HHF _) ?_
    rintro e wx ⟨rfl, rfl⟩
    go_wp2_with fail
    refine Calls.mono (unhide HIH _ (unhide HB3)) ?_
    rintro e w4 ⟨rfl, b4⟩
    have HE8d : Hid (w4.heap[w.heap.size]? = some (.cells Z 43 (0, 0))) := hide ((b4.block _ (by have := (unhide HR12).lt; have := unhide HG12; omega)).trans (unhide HE8c))
    have HE9d : Hid ((w4.setRow w.heap.size L1A).heap[w.heap.size + 1]? = some (.cells Z 43 (0, 0))) := hide (arr_other ((b4.block _ (by have := (unhide HR12).lt; have := unhide HG12; omega)).trans (unhide HE9c)) (by omega))
    have HR12d := hide ((unhide HR12).below b4 (unhide HR12).lt)
    have HB4 := hide ((unhide HB3).trans (b4.mono (unhide HB3).size))
    clear b4 HIH
    go_wp2_with (first
      | (refine wpList_store_row rfl 43 _ _ rfl w.heap.size L1A rfl rfl 43 Z (unhide HE8d) (by rw [z27, unhide HL1S]) (by rw [unhide HL1S, unhide HZS]) (unhide HL1O) ?_)
      | (refine wpList_store_row rfl 43 _ _ rfl (w.heap.size + 1) L2A rfl rfl 43 Z (unhide HE9d) (by rw [z27, unhide HL2S]) (by rw [unhide HL2S, unhide HZS]) (unhide HL2O) ?_))
    have HB5 : Hid (Below w.heap.size w ((w4.setRow w.heap.size L1A).setRow (w.heap.size + 1) L2A)) := hide (Below.setRow (Below.setRow (unhide HB4) _ _ (Nat.le_refl _)) _ _ (by omega))
    have HR8e : Hid (RowAt ((w4.setRow w.heap.size L1A).setRow (w.heap.size + 1) L2A) w.heap.size 43 L1) := hide (by
      have := arr_other (B := L2A) (setRow_heap _ _ _ L1A _ _ (unhide HE8d)) (show w.heap.size ≠ w.heap.size + 1 by omega)
      rw [← hL1A] at this ⊢
      exact this)
    have HR9e : Hid (RowAt ((w4.setRow w.heap.size L1A).setRow (w.heap.size + 1) L2A) (w.heap.size + 1) 43 L2) := hide (by
      have := setRow_heap _ _ _ L2A _ _ (unhide HE9d)
      rw [← hL2A] at this ⊢
      exact this)
    have HR12e : Hid (RowAt ((w4.setRow w.heap.size L1A).setRow (w.heap.size + 1) L2A) g12 43 YL) := hide (by
      have := unhide HG12
      exact arr_other (arr_other (unhide HR12d) (by omega)) (by omega))
    clear HE8d HE9d HR12d HB4
    generalize (w4.setRow w.heap.size L1A).setRow (w.heap.size + 1) L2A = w5 at *
    have hst : K3 w5 w5 w.heap.size (w.heap.size + 1) g12 L1 L2 YL := ⟨(unhide HR8e).range, (unhide HR9e).range, (unhide HR12e).range, Below.refl _ _⟩
    have hk0 : Below w5.heap.size w5 w5.drew := (Below.refl _ _).drew
    have HKN := hide (p := ∀ W, Below w5.heap.size w5 W → _) (fun W hW => unhide HKNo W (bcall (unhide HB5) hW))
    refine wp_region_T (S := fun w' => K3 w5 w' w.heap.size (w.heap.size + 1) g12 L1 L2 YL) (fun i => decide (i < 4)) (by kernel_rfl) (K3.call hst hk0) (fun hHeld => ?_)
    refine wpAnyT_pure (i := 4) (oi := { dst := some 66, op := Op.move (Operand.tmp 10), type := 4, pos := "tree.go:116", after := #[{ on := 6, ground := Ground.gcOnly Departure.lateStores }], guard := none }) (v := .bool bb) rfl (by kernel_rfl) (by kernel_rfl) (by kernel_rfl) rfl (fun _ _ _ h => h) (Or.inl ⟨by rfl, ?_⟩) ?_
    · intro w hSw
      first
        | rfl
        | (go_simp; done)
    try simp only [Act.put, List.setIfInBounds_toArray, List.set_cons_zero, List.set_cons_succ]
    refine wpAnyT_take (i := 0) (oi := { dst := some 62, op := Op.load 43 (Operand.tmp 8), type := 43, pos := "tree.go:116", after := #[], guard := none }) (v := .agg L1.toArray) rfl (by kernel_rfl) (by kernel_rfl) (by kernel_rfl) (by kernel_rfl) (fun _ _ _ h => h)
      (yieldsIf_load_mid (by rfl) _ _ rfl w.heap.size 0 rfl L1 _ (fun w h => h.1) Tryd.underlying43 rfl hi1) hHeld ?_
    try simp only [Act.put, List.setIfInBounds_toArray, List.set_cons_zero, List.set_cons_succ]
    refine wpAnyT_take (i := 1) (oi := { dst := some 63, op := Op.load 43 (Operand.tmp 9), type := 43, pos := "tree.go:116", after := #[], guard := none }) (v := .agg L2.toArray) rfl (by kernel_rfl) (by kernel_rfl) (by kernel_rfl) (by kernel_rfl) (fun _ _ _ h => h)
      (yieldsIf_load_mid (by rfl) _ _ rfl (w.heap.size + 1) 0 rfl L2 _ (fun w h => h.2.1) Tryd.underlying43 rfl hi2) hHeld ?_
    try simp only [Act.put, List.setIfInBounds_toArray, List.set_cons_zero, List.set_cons_succ]
    refine wpAnyT_take (i := 2) (oi := { dst := some 64, op := Op.load 43 (Operand.tmp 12), type := 43, pos := "tree.go:116", after := #[], guard := none }) (v := .agg YL.toArray) rfl (by kernel_rfl) (by kernel_rfl) (by kernel_rfl) (by kernel_rfl) (fun _ _ _ h => h)
      (yieldsIf_load_mid (by rfl) _ _ rfl g12 0 rfl YL _ (fun w h => h.2.2.1) Tryd.underlying43 rfl hiY) hHeld ?_
    try simp only [Act.put, List.setIfInBounds_toArray, List.set_cons_zero, List.set_cons_succ]
    rw [hL1A, hL2A, hYA]
    refine wpAnyT_one (i := 3) (o := { dst := some 65, op := Op.call { callee := Callee.value (Operand.func 81), args := #[Operand.tmp 63, Operand.tmp 64], argTypes := #[43, 43] }, type := 43, pos := "tree.go:116", after := #[{ on := 1, ground := Ground.data }, { on := 2, ground := Ground.data }], guard := none }) (by kernel_rfl) rfl (fun K hK => ?_)
    go_simp
    refine Calls.mono (unhide HKN _ hk0) ?_
    rintro e w6 ⟨rfl, b6⟩
    have k6 := bcall hk0 b6
    go_wp2_with fail
    refine hK.out _ _ (fun _ => K3.call hst k6) ?_
    clear hK K
    try simp only [Act.put, List.setIfInBounds_toArray, List.set_cons_zero, List.set_cons_succ]
    have HE8e := hide ((k6.block _ (unhide HR8e).lt).trans ((unhide HR8e).arr hL1A))
    have HE9e : Hid ((w6.setRow w.heap.size L1A).heap[w.heap.size + 1]? = some (.cells L2A 43 (0, 0))) := hide (arr_other ((k6.block _ (unhide HR9e).lt).trans ((unhide HR9e).arr hL2A)) (by omega))
    refine wpAnyT_one (i := 5) (o := { dst := none, op := Op.store 43 (Operand.tmp 8) (Operand.tmp 62), type := 0, pos := "tree.go:116", after := #[{ on := 0, ground := Ground.data }, { on := 3, ground := Ground.chain }, { on := 0, ground := Ground.phase }, { on := 1, ground := Ground.textOnly Departure.lateStores }, { on := 2, ground := Ground.textOnly Departure.lateStores }, { on := 3, ground := Ground.textOnly Departure.lateStoresUnsure }, { on := 4, ground := Ground.textOnly Departure.lateStores }], guard := none }) (by kernel_rfl) rfl (fun K hK => ?_)
    rw [if_pos (by rfl)]
    refine wp_store_row 43 _ _ rfl w.heap.size L1A rfl rfl 43 L1A (unhide HE8e) (by rw [z27, unhide HL1S]) rfl (unhide HL1O) ?_
    refine hK.out _ _ (fun h => by cases h) ?_
    clear hK K
    try simp only [Act.put, List.setIfInBounds_toArray, List.set_cons_zero, List.set_cons_succ]
    refine wpAnyT_one (i := 6) (o := { dst := none, op := Op.store 43 (Operand.tmp 9) (Operand.tmp 65), type := 0, pos := "tree.go:116", after := #[{ on := 3, ground := Ground.data }, { on := 5, ground := Ground.chain }, { on := 0, ground := Ground.phase }, { on := 1, ground := Ground.phase }, { on := 2, ground := Ground.phase }, { on := 3, ground := Ground.phase }, { on := 4, ground := Ground.textOnly Departure.lateStores }, { on := 5, ground := Ground.phase }], guard := none }) (by kernel_rfl) rfl (fun K hK => ?_)
    rw [if_pos (by rfl)]
    refine wp_store_row 43 _ _ rfl (w.heap.size + 1) KA rfl rfl 43 L2A (unhide HE9e) (by rw [z27, unhide HKS]) (by rw [unhide HKS, unhide HL2S]) (unhide HKO) ?_
    refine hK.out _ _ (fun h => by cases h) ?_
    clear hK K
    try simp only [Act.put, List.setIfInBounds_toArray, List.set_cons_zero, List.set_cons_succ]
    refine wpAnyT_pure (i := 7) (oi := { dst := some 10, op := Op.assign (Operand.tmp 66), type := 4, pos := "tree.go:116", after := #[{ on := 4, ground := Ground.data }, { on := 6, ground := Ground.chain }, { on := 0, ground := Ground.phase }, { on := 1, ground := Ground.phase }, { on := 2, ground := Ground.phase }, { on := 3, ground := Ground.phase }, { on := 4, ground := Ground.phase }, { on := 5, ground := Ground.phase }, { on := 6, ground := Ground.phase }], guard := none }) (v := .bool bb) rfl (by kernel_rfl) (by kernel_rfl) (by kernel_rfl) rfl (fun _ _ _ h => h) (Or.inl ⟨by rfl, ?_⟩) ?_
    · intro w hSw
      first
        | rfl
        | (go_simp; done)
    try simp only [Act.put, List.setIfInBounds_toArray, List.set_cons_zero, List.set_cons_succ]
    refine wpAnyT_done (by kernel_rfl) ?_ _
    go_wp2_with fail
    refine bodyPost_ret (results_row_row_tmp Tryd.results65 _ _ w.heap.size (w.heap.size + 1) 43 43 L1A KA (0, 0) (0, 0) _ rfl rfl (arr_other (setRow_heap _ _ _ _ _ _ (unhide HE8e)) (by omega)) (setRow_heap _ _ _ _ _ _ (unhide HE9e)) Tryd.underlying43 rfl (by rw [z27, unhide HL1S]) (by rw [z27, unhide HKS])) rfl ⟨rfl, ?_⟩
    exact Below.setRow (Below.setRow (bcall (unhide HB5) k6) _ _ (Nat.le_refl _)) _ _ (by omega)
  · have HIH := hide (p := ∀ w', Below w.heap.size w w' → _) (fun w' hw' => (fun hp' => ih (n - half n) (by omega) none (m - half n) P.dropLast (.pointer none) _ w' (hT.below hw') (by omega) (by omega) (by omega) hp' rfl) ((PS.drop hP rfl).call hw'))
    rw [leadB_high hmn h2 hlast hik]
    have hok := leadB_ok (n - half n) none (m - half n) P.dropLast (fun k e => by cases e) (fun s hs => hp2 s (List.mem_of_mem_take (by rw [← List.dropLast_eq_take]; exact hs)))
    obtain ⟨D1, hD1⟩ : ∃ L, (leadB none (m - half n) (n - half n) P.dropLast).1 = L := ⟨_, rfl⟩
    obtain ⟨D2, hD2⟩ : ∃ L, (leadB none (m - half n) (n - half n) P.dropLast).2.1 = L := ⟨_, rfl⟩
    obtain ⟨bb, hbb⟩ : ∃ b, (leadB none (m - half n) (n - half n) P.dropLast).2.2 = b := ⟨_, rfl⟩
    rw [hD1, hD2] at hok
    rw [hD1, hD2, hbb] at HIH ⊢
    obtain ⟨⟨l1, l8⟩, m1, m8⟩ := hok
    have hKN := fun w' (hw' : Below w.heap.size w w') => knot_any y D1 w' (hT.below hw') y1 l1 y8 l8
    have hKM := fun w' (hw' : Below w.heap.size w w') => knot_any y D2 w' (hT.below hw') y1 m1 y8 m8
    obtain ⟨KD, hKD⟩ : ∃ K, knotL y D1 = K := ⟨_, rfl⟩
    obtain ⟨MD, hMD⟩ : ∃ K, knotL y D2 = K := ⟨_, rfl⟩
    rw [hKD] at hKN ⊢
    rw [hMD] at hKM ⊢
    have HKL : Hid (KD.length = 32) := hide (by rw [← hKD, knotL_len])
    have HML : Hid (MD.length = 32) := hide (by rw [← hMD, knotL_len])
    obtain ⟨MA, hMA⟩ : ∃ A, (bv MD).toArray = A := ⟨_, rfl⟩
    have HMS : Hid (MA.size = 32) := hide (by rw [← hMA, List.size_toArray, bv_len, unhide HML])
    have HMO : Hid (MA.all (·.oneCell') = true) := hide (hMA ▸ one_bv _)
    obtain ⟨L1, hL1⟩ : ∃ X, bv D1 = X := ⟨_, rfl⟩
    obtain ⟨L2, hL2⟩ : ∃ X, bv D2 = X := ⟨_, rfl⟩
    have hi1 : (Tryd.prog.info? 43).map (·.size) = some L1.length := hL1 ▸ size43 l1
    have hi2 : (Tryd.prog.info? 43).map (·.size) = some L2.length := hL2 ▸ size43 m1
    obtain ⟨L1A, hL1A⟩ : ∃ A, L1.toArray = A := ⟨_, rfl⟩
    obtain ⟨L2A, hL2A⟩ : ∃ A, L2.toArray = A := ⟨_, rfl⟩
    have HL1O : Hid (L1A.all (·.oneCell') = true) := hide (hL1A ▸ hL1 ▸ one_bv D1)
    have HL2O : Hid (L2A.all (·.oneCell') = true) := hide (hL2A ▸ hL2 ▸ one_bv D2)
    have HL1S : Hid (L1A.size = 32) := hide (by rw [← hL1A, List.size_toArray, ← hL1, bv_len, l1])
    have HL2S : Hid (L2A.size = 32) := hide (by rw [← hL2A, List.size_toArray, ← hL2, bv_len, m1])
    obtain ⟨KA, hKA⟩ : ∃ A, (bv KD).toArray = A := ⟨_, rfl⟩
    have HKS : Hid (KA.size = 32) := hide (by rw [← hKA, List.size_toArray, bv_len, unhide HKL])
    have HKO : Hid (KA.all (·.oneCell') = true) := hide (hKA ▸ one_bv _)
    rw [hL1, hL1A, hL2, hL2A] at HIH
    rw [hL1, hL1A, hYL, hYA, hKA] at hKN
    rw [hL2, hL2A, hYL, hYA, hMA] at hKM
    rw [hKA, hMA]
    have HKNo := hide hKN
    have HKMo := hide hKM
    obtain ⟨k, hk⟩ : ∃ k, half n = k := ⟨_, rfl⟩
    rw [hk] at HHF HIH hh hhp hik
    have e2 : ((n - k : Nat) : Int) = (n : Int) - (k : Int) := by omega
    have e3 : ((m - k : Nat) : Int) = (m : Int) - (k : Int) := by omega
    rw [e2, e3] at HIH
    have nI : (n : Int) ≤ 1099511627776 := by omega
    have kI : (k : Int) < (n : Int) := by omega
    have k1 : (1 : Int) ≤ (k : Int) := by omega
    have mk : ¬ (m : Int) ≤ (k : Int) := by omega
    have mI : (m : Int) ≤ (n : Int) := by omega
    obtain ⟨pl, hpl⟩ : ∃ n, P.length = n := ⟨_, rfl⟩
    rw [hpl] at HCT HIH hp0 hp1 ⊢
    have pn : ((pl : Int) == 0) = false := beq_eq_false_iff_ne.2 (by omega)
    have pn2 : ¬ (pl : Int) = 0 := by omega
    clear hZ hlast hP hne hS hy y1 y8 hp0 hp1 hp2 hc hpl hYL ih hT hn hmle hm1 hmn h2 hh hhp hik hk hKD hD1 hD2 hbb l1 l8 m1 m8 hL1 hL2 hKA hKN hK e2 e3 hMD hMA hKM
    go_enter Tryd.func65, Tryd.ntmps65
    go_wp2_with fail
    generalize (w.alloc (.cells Z 43)).alloc (.cells Z 43) = w1 at *
    refine Calls.mono (unhide HCT _ (unhide HB1)) ?_
    rintro e w2 ⟨rfl, b2⟩
    have HB2 := hide ((unhide HB1).trans (b2.mono (unhide HB1).size))
    have b2a := b2.alloc b2.size (.cells YA 43)
    have HB3 := hide ((unhide HB2).alloc (unhide HB2).size (.cells YA 43))
    have HE8c : Hid ((w2.alloc (.cells YA 43)).heap[w.heap.size]? = some (.cells Z 43 (0, 0))) := hide ((b2a.block _ (by have := unhide HS1; omega)).trans (unhide HE8))
    have HE9c : Hid ((w2.alloc (.cells YA 43)).heap[w.heap.size + 1]? = some (.cells Z 43 (0, 0))) := hide ((b2a.block _ (by have := unhide HS1; omega)).trans (unhide HE9))
    have HR12 : Hid (RowAt (w2.alloc (.cells YA 43)) w2.heap.size 43 YL) := hide (hYA ▸ RowAt.new w2 43 YL)
    have HG12 : Hid (w.heap.size + 2 ≤ w2.heap.size) := hide (by have := b2.size; have := unhide HS1; omega)
    clear b2 b2a HCT
    go_wp2_with (refine wpList_store_new rfl 43 _ _ rfl YA rfl rfl (by rw [z27, unhide HYS]) (by rw [unhide HYS, unhide HZS]) (unhide HYO) ?_)
    obtain ⟨g12, hg12⟩ : ∃ g, w2.heap.size = g := ⟨_, rfl⟩
    rw [hg12] at HR12 HG12 ⊢
    generalize w2.alloc (.cells YA 43) = w3 at *
    refine Calls.mono (unhide HHF _) ?_
    rintro e wx ⟨rfl, rfl⟩
    go_wp2_with fail
    refine Calls.mono (unhide HIH _ (unhide HB3)) ?_
    rintro e w4 ⟨rfl, b4⟩
    have HE8d : Hid (w4.heap[w.heap.size]? = some (.cells Z 43 (0, 0))) := hide ((b4.block _ (by have := (unhide HR12).lt; have := unhide HG12; omega)).trans (unhide HE8c))
    have HE9d : Hid ((w4.setRow w.heap.size L1A).heap[w.heap.size + 1]? = some (.cells Z 43 (0, 0))) := hide (arr_other ((b4.block _ (by have := (unhide HR12).lt; have := unhide HG12; omega)).trans (unhide HE9c)) (by omega))
    have HR12d := hide ((unhide HR12).below b4 (unhide HR12).lt)
    have HB4 := hide ((unhide HB3).trans (b4.mono (unhide HB3).size))
    clear b4 HIH
    go_wp2_with (first
      | (refine wpList_store_row rfl 43 _ _ rfl w.heap.size L1A rfl rfl 43 Z (unhide HE8d) (by rw [z27, unhide HL1S]) (by rw [unhide HL1S, unhide HZS]) (unhide HL1O) ?_)
      | (refine wpList_store_row rfl 43 _ _ rfl (w.heap.size + 1) L2A rfl rfl 43 Z (unhide HE9d) (by rw [z27, unhide HL2S]) (by rw [unhide HL2S, unhide HZS]) (unhide HL2O) ?_))
    have HB5 : Hid (Below w.heap.size w ((w4.setRow w.heap.size L1A).setRow (w.heap.size + 1) L2A)) := hide (Below.setRow (Below.setRow (unhide HB4) _ _ (Nat.le_refl _)) _ _ (by omega))
    have HR8e : Hid (RowAt ((w4.setRow w.heap.size L1A).setRow (w.heap.size + 1) L2A) w.heap.size 43 L1) := hide (by
      have := arr_other (B := L2A) (setRow_heap _ _ _ L1A _ _ (unhide HE8d)) (show w.heap.size ≠ w.heap.size + 1 by omega)
      rw [← hL1A] at this ⊢
      exact this)
    have HR9e : Hid (RowAt ((w4.setRow w.heap.size L1A).setRow (w.heap.size + 1) L2A) (w.heap.size + 1) 43 L2) := hide (by
      have := setRow_heap _ _ _ L2A _ _ (unhide HE9d)
      rw [← hL2A] at this ⊢
      exact this)
    have HR12e : Hid (RowAt ((w4.setRow w.heap.size L1A).setRow (w.heap.size + 1) L2A) g12 43 YL) := hide (by
      have := unhide HG12
      exact arr_other (arr_other (unhide HR12d) (by omega)) (by omega))
    clear HE8d HE9d HR12d HB4
    generalize (w4.setRow w.heap.size L1A).setRow (w.heap.size + 1) L2A = w5 at *
    have hst : K3 w5 w5 w.heap.size (w.heap.size + 1) g12 L1 L2 YL := ⟨(unhide HR8e).range, (unhide HR9e).range, (unhide HR12e).range, Below.refl _ _⟩
    have hk0 : Below w5.heap.size w5 w5.drew := (Below.refl _ _).drew
    have HKN := hide (p := ∀ W, Below w5.heap.size w5 W → _) (fun W hW => unhide HKNo W (bcall (unhide HB5) hW))
    have HKM := hide (p := ∀ W, Below w5.heap.size w5 W → _) (fun W hW => unhide HKMo W (bcall (unhide HB5) hW))
    refine wp_region_T (S := fun w' => K3 w5 w' w.heap.size (w.heap.size + 1) g12 L1 L2 YL) (fun i => decide (i < 6)) (by kernel_rfl) (K3.call hst hk0) (fun hHeld => ?_)
    refine wpAnyT_pure (i := 6) (oi := { dst := some 85, op := Op.move (Operand.tmp 10), type := 4, pos := "tree.go:119", after := #[{ on := 8, ground := Ground.gcOnly Departure.lateStores }], guard := none }) (v := .bool bb) rfl (by kernel_rfl) (by kernel_rfl) (by kernel_rfl) rfl (fun _ _ _ h => h) (Or.inl ⟨by rfl, ?_⟩) ?_
    · intro w hSw
      first
        | rfl
        | (go_simp; done)
    try simp only [Act.put, List.setIfInBounds_toArray, List.set_cons_zero, List.set_cons_succ]
    refine wpAnyT_take (i := 0) (oi := { dst := some 79, op := Op.load 43 (Operand.tmp 12), type := 43, pos := "tree.go:119", after := #[], guard := none }) (v := .agg YL.toArray) rfl (by kernel_rfl) (by kernel_rfl) (by kernel_rfl) (by kernel_rfl) (fun _ _ _ h => h)
      (yieldsIf_load_mid (by rfl) _ _ rfl g12 0 rfl YL _ (fun w h => h.2.2.1) Tryd.underlying43 rfl hiY) hHeld ?_
    try simp only [Act.put, List.setIfInBounds_toArray, List.set_cons_zero, List.set_cons_succ]
    refine wpAnyT_take (i := 1) (oi := { dst := some 80, op := Op.load 43 (Operand.tmp 8), type := 43, pos := "tree.go:119", after := #[], guard := none }) (v := .agg L1.toArray) rfl (by kernel_rfl) (by kernel_rfl) (by kernel_rfl) (by kernel_rfl) (fun _ _ _ h => h)
      (yieldsIf_load_mid (by rfl) _ _ rfl w.heap.size 0 rfl L1 _ (fun w h => h.1) Tryd.underlying43 rfl hi1) hHeld ?_
    try simp only [Act.put, List.setIfInBounds_toArray, List.set_cons_zero, List.set_cons_succ]
    refine wpAnyT_take (i := 3) (oi := { dst := some 82, op := Op.load 43 (Operand.tmp 12), type := 43, pos := "tree.go:119", after := #[], guard := none }) (v := .agg YL.toArray) rfl (by kernel_rfl) (by kernel_rfl) (by kernel_rfl) (by kernel_rfl) (fun _ _ _ h => h)
      (yieldsIf_load_mid (by rfl) _ _ rfl g12 0 rfl YL _ (fun w h => h.2.2.1) Tryd.underlying43 rfl hiY) hHeld ?_
    try simp only [Act.put, List.setIfInBounds_toArray, List.set_cons_zero, List.set_cons_succ]
    refine wpAnyT_take (i := 4) (oi := { dst := some 83, op := Op.load 43 (Operand.tmp 9), type := 43, pos := "tree.go:119", after := #[], guard := none }) (v := .agg L2.toArray) rfl (by kernel_rfl) (by kernel_rfl) (by kernel_rfl) (by kernel_rfl) (fun _ _ _ h => h)
      (yieldsIf_load_mid (by rfl) _ _ rfl (w.heap.size + 1) 0 rfl L2 _ (fun w h => h.2.1) Tryd.underlying43 rfl hi2) hHeld ?_
    try simp only [Act.put, List.setIfInBounds_toArray, List.set_cons_zero, List.set_cons_succ]
    rw [hL1A, hL2A, hYA]
    refine wpAnyT_one (i := 2) (o := { dst := some 81, op := Op.call { callee := Callee.value (Operand.func 81), args := #[Operand.tmp 79, Operand.tmp 80], argTypes := #[43, 43] }, type := 43, pos := "tree.go:119", after := #[{ on := 0, ground := Ground.data }, { on := 1, ground := Ground.data }], guard := none }) (by kernel_rfl) rfl (fun K hK => ?_)
    go_simp
    refine Calls.mono (unhide HKN _ hk0) ?_
    rintro e w6 ⟨rfl, b6⟩
    have k6 := bcall hk0 b6
    go_wp2_with fail
    refine hK.out _ _ (fun _ => K3.call hst k6) ?_
    clear hK K
    try simp only [Act.put, List.setIfInBounds_toArray, List.set_cons_zero, List.set_cons_succ]
    refine wpAnyT_one (i := 5) (o := { dst := some 84, op := Op.call { callee := Callee.value (Operand.func 81), args := #[Operand.tmp 82, Operand.tmp 83], argTypes := #[43, 43] }, type := 43, pos := "tree.go:119", after := #[{ on := 3, ground := Ground.data }, { on := 4, ground := Ground.data }, { on := 2, ground := Ground.chain }], guard := none }) (by kernel_rfl) rfl (fun K hK => ?_)
    go_simp
    refine Calls.mono (unhide HKM _ k6) ?_
    rintro e w7 ⟨rfl, b7⟩
    have k7 := bcall k6 b7
    go_wp2_with fail
    refine hK.out _ _ (fun _ => K3.call hst k7) ?_
    clear hK K
    try simp only [Act.put, List.setIfInBounds_toArray, List.set_cons_zero, List.set_cons_succ]
    have HE8e := hide ((k7.block _ (unhide HR8e).lt).trans ((unhide HR8e).arr hL1A))
    have HE9e : Hid ((w7.setRow w.heap.size KA).heap[w.heap.size + 1]? = some (.cells L2A 43 (0, 0))) := hide (arr_other ((k7.block _ (unhide HR9e).lt).trans ((unhide HR9e).arr hL2A)) (by omega))
    refine wpAnyT_one (i := 7) (o := { dst := none, op := Op.store 43 (Operand.tmp 8) (Operand.tmp 81), type := 0, pos := "tree.go:119", after := #[{ on := 2, ground := Ground.data }, { on := 5, ground := Ground.chain }, { on := 0, ground := Ground.phase }, { on := 1, ground := Ground.phase }, { on := 2, ground := Ground.phase }, { on := 3, ground := Ground.textOnly Departure.lateStores }, { on := 4, ground := Ground.textOnly Departure.lateStores }, { on := 5, ground := Ground.textOnly Departure.lateStoresUnsure }, { on := 6, ground := Ground.textOnly Departure.lateStores }], guard := none }) (by kernel_rfl) rfl (fun K hK => ?_)
    rw [if_pos (by rfl)]
    refine wp_store_row 43 _ _ rfl w.heap.size KA rfl rfl 43 L1A (unhide HE8e) (by rw [z27, unhide HKS]) (by rw [unhide HKS, unhide HL1S]) (unhide HKO) ?_
    refine hK.out _ _ (fun h => by cases h) ?_
    clear hK K
    try simp only [Act.put, List.setIfInBounds_toArray, List.set_cons_zero, List.set_cons_succ]
    refine wpAnyT_one (i := 8) (o := { dst := none, op := Op.store 43 (Operand.tmp 9) (Operand.tmp 84), type := 0, pos := "tree.go:119", after := #[{ on := 5, ground := Ground.data }, { on := 7, ground := Ground.chain }, { on := 0, ground := Ground.phase }, { on := 1, ground := Ground.phase }, { on := 2, ground := Ground.phase }, { on := 3, ground := Ground.phase }, { on := 4, ground := Ground.phase }, { on := 5, ground := Ground.phase }, { on := 6, ground := Ground.textOnly Departure.lateStores }, { on := 7, ground := Ground.phase }], guard := none }) (by kernel_rfl) rfl (fun K hK => ?_)
    rw [if_pos (by rfl)]
    refine wp_store_row 43 _ _ rfl (w.heap.size + 1) MA rfl rfl 43 L2A (unhide HE9e) (by rw [z27, unhide HMS]) (by rw [unhide HMS, unhide HL2S]) (unhide HMO) ?_
    refine hK.out _ _ (fun h => by cases h) ?_
    clear hK K
    try simp only [Act.put, List.setIfInBounds_toArray, List.set_cons_zero, List.set_cons_succ]
    refine wpAnyT_pure (i := 9) (oi := { dst := some 10, op := Op.assign (Operand.tmp 85), type := 4, pos := "tree.go:119", after := #[{ on := 6, ground := Ground.data }, { on := 8, ground := Ground.chain }, { on := 0, ground := Ground.phase }, { on := 1, ground := Ground.phase }, { on := 2, ground := Ground.phase }, { on := 3, ground := Ground.phase }, { on := 4, ground := Ground.phase }, { on := 5, ground := Ground.phase }, { on := 6, ground := Ground.phase }, { on := 7, ground := Ground.phase }, { on := 8, ground := Ground.phase }], guard := none }) (v := .bool bb) rfl (by kernel_rfl) (by kernel_rfl) (by kernel_rfl) rfl (fun _ _ _ h => h) (Or.inl ⟨by rfl, ?_⟩) ?_
    · intro w hSw
      first
        | rfl
        | (go_simp; done)
    try simp only [Act.put, List.setIfInBounds_toArray, List.set_cons_zero, List.set_cons_succ]
    refine wpAnyT_done (by kernel_rfl) ?_ _
    go_wp2_with fail
    refine bodyPost_ret (results_row_row_tmp Tryd.results65 _ _ w.heap.size (w.heap.size + 1) 43 43 KA MA (0, 0) (0, 0) _ rfl rfl (arr_other (setRow_heap _ _ _ _ _ _ (unhide HE8e)) (by omega)) (setRow_heap _ _ _ _ _ _ (unhide HE9e)) Tryd.underlying43 rfl (by rw [z27, unhide HKS]) (by rw [z27, unhide HMS])) rfl ⟨rfl, ?_⟩
    exact Below.setRow (Below.setRow (bcall (unhide HB5) k7) _ _ (Nat.le_refl _)) _ _ (by omega)
end Go.Proofs.YtonkgiiacholeaaDoor

namespace Go.Proofs.YtonkgiiacholeaaDoor
set_option linter.unusedVariables false
set_option linter.unusedSimpArgs false
open Go.ChangeShapes Go.WideShapes Go.ChangeAt Go.RowKit Go.Joins

theorem eqn_gr (bb r1 r2 : Bool) (p : Prop) [Decidable p] (q : Prop) [Decidable q] (h1 : decide p = r1) (h2 : decide q = r2) : (if bb = true ∧ p ∧ q then (0 : Int) else 140) = if (bb && r1 && r2) = true then 0 else 140 := by
  subst h1 h2
  cases bb <;> simp
set_option maxRecDepth 100000 in
set_option maxHeartbeats 8000000 in
theorem grows_ok (m n : Nat) (old R : List Nat) (P : List (List Nat)) (vp : Value) (w : World) (hT : Tabs w) (hm1 : 1 ≤ m) (hmn : m ≤ n) (hn : n ≤ 1099511627776) (ho : old.length = 32) (ho8 : U8 old) (hR : R.length = 32) (hP : PS w vp P) :
    Calls Tryd.prog 38 #[.int .i64 (m : Int), .int .i64 (n : Int), .agg (bv old).toArray, .agg (bv R).toArray, vp] w fun e w' => e = .returned (.int .i64 (growsE m n old R P)) ∧ Below w.heap.size w w' := by
  have hz := zero27
  generalize hZ : (bv (List.replicate 32 0)).toArray = Z at hz
  have HZS : Hid (Z.size = 32) := hide (by rw [← hZ, List.size_toArray, bv_len, List.length_replicate])
  have HZL : Hid (RowAt (w.alloc (.cells Z 43)) w.heap.size 43 (bv (List.replicate 32 0))) := hide (hZ ▸ RowAt.new w 43 _)
  obtain ⟨OL, hOL⟩ : ∃ X, bv old = X := ⟨_, rfl⟩
  obtain ⟨OA, hOA⟩ : ∃ A, OL.toArray = A := ⟨_, rfl⟩
  obtain ⟨RA, hRA⟩ : ∃ A, (bv R).toArray = A := ⟨_, rfl⟩
  have HOS : Hid (OA.size = 32) := hide (by rw [← hOA, List.size_toArray, ← hOL, bv_len, ho])
  have HRS : Hid (RA.size = 32) := hide (by rw [← hRA, List.size_toArray, bv_len, hR])
  have b0 : Below w.heap.size w (w.alloc (.cells OA 43)) := (Below.refl _ _).alloc (Nat.le_refl _) _
  have bx : Below (w.alloc (.cells OA 43)).heap.size (w.alloc (.cells OA 43)) ((w.alloc (.cells OA 43)).alloc (.cells RA 43)) := (Below.refl _ _).alloc (Nat.le_refl _) _
  have HB1 : Hid (Below w.heap.size w ((w.alloc (.cells OA 43)).alloc (.cells RA 43))) := hide (b0.alloc b0.size _)
  have hr7 : RowAt ((w.alloc (.cells OA 43)).alloc (.cells RA 43)) w.heap.size 43 OL := by
    have r0 : RowAt (w.alloc (.cells OA 43)) w.heap.size 43 OL := hOA ▸ RowAt.new w 43 OL
    exact r0.below bx r0.lt
  have hr8 : RowAt ((w.alloc (.cells OA 43)).alloc (.cells RA 43)) (w.heap.size + 1) 43 (bv R) := by
    have := RowAt.new (w.alloc (.cells OA 43)) 43 (bv R)
    rw [hRA, size_alloc] at this
    exact this
  have HR7 := hide hr7
  have HR8 := hide hr8
  have hKP : KP ((w.alloc (.cells OA 43)).alloc (.cells RA 43)) (.pointer (some ⟨w.heap.size, 0, none⟩)) (some old) := ⟨⟨ho, ho8⟩, w.heap.size, rfl, by rw [hOL]; exact hr7.range⟩
  have HLB := hide (leadB_any n (some old) m P _ vp _ (hT.below (unhide HB1)) hm1 hmn hn (hP.call (unhide HB1)) hKP)
  have hok := leadB_ok n (some old) m P (fun k e => by cases e; exact ⟨ho, ho8⟩) (let ⟨_, _, _, _, _, h, _⟩ := hP; h)
  unfold growsE
  obtain ⟨D1, hD1⟩ : ∃ L, (leadB (some old) m n P).1 = L := ⟨_, rfl⟩
  obtain ⟨D2, hD2⟩ : ∃ L, (leadB (some old) m n P).2.1 = L := ⟨_, rfl⟩
  obtain ⟨bb, hbb⟩ : ∃ b, (leadB (some old) m n P).2.2 = b := ⟨_, rfl⟩
  rw [hD1, hD2] at hok
  rw [hD1, hD2, hbb] at HLB ⊢
  obtain ⟨⟨l1, l8⟩, m1, m8⟩ := hok
  have hq1 := eq_sums D1 old l1 ho
  have hq2 := eq_sums D2 R m1 hR
  obtain ⟨r1, hr1⟩ : ∃ r, decide (D1 = old) = r := ⟨_, rfl⟩
  obtain ⟨r2, hr2⟩ : ∃ r, decide (D2 = R) = r := ⟨_, rfl⟩
  rw [eqn_gr bb r1 r2 _ _ hr1 hr2]
  rw [hr1] at hq1
  rw [hr2] at hq2
  obtain ⟨D1A, hD1A⟩ : ∃ A, (bv D1).toArray = A := ⟨_, rfl⟩
  obtain ⟨D2A, hD2A⟩ : ∃ A, (bv D2).toArray = A := ⟨_, rfl⟩
  have HD1S : Hid (D1A.size = 32) := hide (by rw [← hD1A, List.size_toArray, bv_len, l1])
  have HD2S : Hid (D2A.size = 32) := hide (by rw [← hD2A, List.size_toArray, bv_len, m1])
  have HD1O : Hid (D1A.all (·.oneCell') = true) := hide (hD1A ▸ one_bv _)
  have HD2O : Hid (D2A.all (·.oneCell') = true) := hide (hD2A ▸ one_bv _)
  rw [hD1A, hD2A] at HLB
  rw [hD1A, hOL, hOA] at hq1
  rw [hD2A, hRA] at hq2
  have HOA := hide hOA
  have HRA := hide hRA
  rw [hOL, hOA, hRA]
  obtain ⟨pa, pc, rfl, _⟩ := id hP
  obtain ⟨pl, hpl⟩ : ∃ n, P.length = n := ⟨_, rfl⟩
  rw [hpl] at HLB ⊢
  have c1 : ¬ (m : Int) < 1 := by omega
  have c2 : ¬ (n : Int) < (m : Int) := by omega
  have c3 : ¬ (1099511627776 : Int) < (n : Int) := by omega
  have HSZ : Hid (((w.alloc (.cells OA 43)).alloc (.cells RA 43)).heap.size = w.heap.size + 2) := hide (by rw [size_alloc, size_alloc])
  clear hZ hOL hOA hRA b0 bx hr7 hr8 hKP hT hm1 hmn hn ho ho8 hR hP hD1 hD2 hbb l1 l8 m1 m8 hr1 hr2 hD1A hD2A hpl
  go_enter Tryd.func38, Tryd.ntmps38
  go_wp2_with fail
  generalize (w.alloc (.cells OA 43)).alloc (.cells RA 43) = w1 at *
  refine Calls.mono (unhide HLB) ?_
  rintro e w2 ⟨rfl, b2⟩
  have HB2 := hide (bcall (unhide HB1) b2)
  have hb3 : Below w2.heap.size w2 ((w2.alloc (.cells Z 43)).alloc (.cells Z 43)) := by
    have b0 : Below w2.heap.size w2 (w2.alloc (.cells Z 43)) := (Below.refl _ _).alloc (Nat.le_refl _) _
    exact b0.alloc b0.size _
  have HR72 := hide (((unhide HR7).below b2 (unhide HR7).lt))
  have HR82 := hide (((unhide HR8).below b2 (unhide HR8).lt))
  have HG2 : Hid (w.heap.size + 2 ≤ w2.heap.size) := hide (by have := b2.size; have := unhide HSZ; omega)
  have HE11a : Hid (((w2.alloc (.cells Z 43)).alloc (.cells Z 43)).heap[w2.heap.size]? = some (.cells Z 43 (0, 0))) := hide (by
    have bx : Below (w2.alloc (.cells Z 43)).heap.size (w2.alloc (.cells Z 43)) ((w2.alloc (.cells Z 43)).alloc (.cells Z 43)) := (Below.refl _ _).alloc (Nat.le_refl _) _
    exact (bx.block _ (by rw [size_alloc]; omega)).trans (heap_alloc_new _ _))
  have HE12a : Hid (((w2.alloc (.cells Z 43)).alloc (.cells Z 43)).heap[w2.heap.size + 1]? = some (.cells Z 43 (0, 0))) := hide (by
    have := heap_alloc_new (w2.alloc (.cells Z 43)) (.cells Z 43)
    rw [size_alloc] at this
    exact this)
  have HB3 := hide (bcall (unhide HB2) hb3)
  have HR73 := hide ((unhide HR72).below hb3 (unhide HR72).lt)
  have HR83 := hide ((unhide HR82).below hb3 (unhide HR82).lt)
  clear b2 hb3 HLB
  have HE12b : Hid ((((w2.alloc (.cells Z 43)).alloc (.cells Z 43)).setRow w2.heap.size D1A).heap[w2.heap.size + 1]? = some (.cells Z 43 (0, 0))) := hide (arr_other (unhide HE12a) (by omega))
  have gl := unhide HG2
  have HE11 : Hid (((((w2.alloc (.cells Z 43)).alloc (.cells Z 43)).setRow w2.heap.size D1A).setRow (w2.heap.size + 1) D2A).heap[w2.heap.size]? = some (.cells D1A 43 (0, 0))) := hide (arr_other (setRow_heap _ _ _ _ _ _ (unhide HE11a)) (by omega))
  have HE12 : Hid (((((w2.alloc (.cells Z 43)).alloc (.cells Z 43)).setRow w2.heap.size D1A).setRow (w2.heap.size + 1) D2A).heap[w2.heap.size + 1]? = some (.cells D2A 43 (0, 0))) := hide (setRow_heap _ _ _ _ _ _ (unhide HE12b))
  have HE7 : Hid (((((w2.alloc (.cells Z 43)).alloc (.cells Z 43)).setRow w2.heap.size D1A).setRow (w2.heap.size + 1) D2A).heap[w.heap.size]? = some (.cells OA 43 (0, 0))) := hide (arr_other (arr_other ((unhide HR73).arr (unhide HOA)) (by omega)) (by omega))
  have HE8 : Hid (((((w2.alloc (.cells Z 43)).alloc (.cells Z 43)).setRow w2.heap.size D1A).setRow (w2.heap.size + 1) D2A).heap[w.heap.size + 1]? = some (.cells RA 43 (0, 0))) := hide (arr_other (arr_other ((unhide HR83).arr (unhide HRA)) (by omega)) (by omega))
  have HB5 : Hid (Below w.heap.size w ((((w2.alloc (.cells Z 43)).alloc (.cells Z 43)).setRow w2.heap.size D1A).setRow (w2.heap.size + 1) D2A)) := hide (Below.setRow (Below.setRow (unhide HB3) _ _ (by omega)) _ _ (by omega))
  clear gl
  cases bb with
  | false =>
    go_wp2_with (first
      | (refine wpList_store_row rfl 43 _ _ rfl w2.heap.size D1A rfl rfl 43 Z (unhide HE11a) (by rw [z27, unhide HD1S]) (by rw [unhide HD1S, unhide HZS]) (unhide HD1O) ?_)
      | (refine wpList_store_row rfl 43 _ _ rfl (w2.heap.size + 1) D2A rfl rfl 43 Z (unhide HE12b) (by rw [z27, unhide HD2S]) (by rw [unhide HD2S, unhide HZS]) (unhide HD2O) ?_)
      | (refine wpList_load_if rfl 43 _ rfl w2.heap.size rfl 43 D1A (0, 0) _ (unhide HE11) Tryd.underlying43 rfl (by rw [z27, unhide HD1S]) ?_)
      | (refine wpList_load_if rfl 43 _ rfl w.heap.size rfl 43 OA (0, 0) _ (unhide HE7) Tryd.underlying43 rfl (by rw [z27, unhide HOS]) ?_)
      | (refine wpList_load_if rfl 43 _ rfl (w2.heap.size + 1) rfl 43 D2A (0, 0) _ (unhide HE12) Tryd.underlying43 rfl (by rw [z27, unhide HD2S]) ?_)
      | (refine wpList_load_if rfl 43 _ rfl (w.heap.size + 1) rfl 43 RA (0, 0) _ (unhide HE8) Tryd.underlying43 rfl (by rw [z27, unhide HRS]) ?_))
    go_ret
    exact ⟨rfl, unhide HB5⟩
  | true =>
    cases r1 with
    | false =>
      go_wp2_with (first
        | (refine wpList_store_row rfl 43 _ _ rfl w2.heap.size D1A rfl rfl 43 Z (unhide HE11a) (by rw [z27, unhide HD1S]) (by rw [unhide HD1S, unhide HZS]) (unhide HD1O) ?_)
        | (refine wpList_store_row rfl 43 _ _ rfl (w2.heap.size + 1) D2A rfl rfl 43 Z (unhide HE12b) (by rw [z27, unhide HD2S]) (by rw [unhide HD2S, unhide HZS]) (unhide HD2O) ?_)
        | (refine wpList_load_if rfl 43 _ rfl w2.heap.size rfl 43 D1A (0, 0) _ (unhide HE11) Tryd.underlying43 rfl (by rw [z27, unhide HD1S]) ?_)
        | (refine wpList_load_if rfl 43 _ rfl w.heap.size rfl 43 OA (0, 0) _ (unhide HE7) Tryd.underlying43 rfl (by rw [z27, unhide HOS]) ?_)
        | (refine wpList_load_if rfl 43 _ rfl (w2.heap.size + 1) rfl 43 D2A (0, 0) _ (unhide HE12) Tryd.underlying43 rfl (by rw [z27, unhide HD2S]) ?_)
        | (refine wpList_load_if rfl 43 _ rfl (w.heap.size + 1) rfl 43 RA (0, 0) _ (unhide HE8) Tryd.underlying43 rfl (by rw [z27, unhide HRS]) ?_))
      go_ret
      exact ⟨rfl, unhide HB5⟩
    | true =>
      cases r2 with
      | false =>
        go_wp2_with (first
          | (refine wpList_store_row rfl 43 _ _ rfl w2.heap.size D1A rfl rfl 43 Z (unhide HE11a) (by rw [z27, unhide HD1S]) (by rw [unhide HD1S, unhide HZS]) (unhide HD1O) ?_)
          | (refine wpList_store_row rfl 43 _ _ rfl (w2.heap.size + 1) D2A rfl rfl 43 Z (unhide HE12b) (by rw [z27, unhide HD2S]) (by rw [unhide HD2S, unhide HZS]) (unhide HD2O) ?_)
          | (refine wpList_load_if rfl 43 _ rfl w2.heap.size rfl 43 D1A (0, 0) _ (unhide HE11) Tryd.underlying43 rfl (by rw [z27, unhide HD1S]) ?_)
          | (refine wpList_load_if rfl 43 _ rfl w.heap.size rfl 43 OA (0, 0) _ (unhide HE7) Tryd.underlying43 rfl (by rw [z27, unhide HOS]) ?_)
          | (refine wpList_load_if rfl 43 _ rfl (w2.heap.size + 1) rfl 43 D2A (0, 0) _ (unhide HE12) Tryd.underlying43 rfl (by rw [z27, unhide HD2S]) ?_)
          | (refine wpList_load_if rfl 43 _ rfl (w.heap.size + 1) rfl 43 RA (0, 0) _ (unhide HE8) Tryd.underlying43 rfl (by rw [z27, unhide HRS]) ?_))
        go_ret
        exact ⟨rfl, unhide HB5⟩
      | true =>
        go_wp2_with (first
          | (refine wpList_store_row rfl 43 _ _ rfl w2.heap.size D1A rfl rfl 43 Z (unhide HE11a) (by rw [z27, unhide HD1S]) (by rw [unhide HD1S, unhide HZS]) (unhide HD1O) ?_)
          | (refine wpList_store_row rfl 43 _ _ rfl (w2.heap.size + 1) D2A rfl rfl 43 Z (unhide HE12b) (by rw [z27, unhide HD2S]) (by rw [unhide HD2S, unhide HZS]) (unhide HD2O) ?_)
          | (refine wpList_load_if rfl 43 _ rfl w2.heap.size rfl 43 D1A (0, 0) _ (unhide HE11) Tryd.underlying43 rfl (by rw [z27, unhide HD1S]) ?_)
          | (refine wpList_load_if rfl 43 _ rfl w.heap.size rfl 43 OA (0, 0) _ (unhide HE7) Tryd.underlying43 rfl (by rw [z27, unhide HOS]) ?_)
          | (refine wpList_load_if rfl 43 _ rfl (w2.heap.size + 1) rfl 43 D2A (0, 0) _ (unhide HE12) Tryd.underlying43 rfl (by rw [z27, unhide HD2S]) ?_)
          | (refine wpList_load_if rfl 43 _ rfl (w.heap.size + 1) rfl 43 RA (0, 0) _ (unhide HE8) Tryd.underlying43 rfl (by rw [z27, unhide HRS]) ?_))
        go_ret
        exact ⟨rfl, unhide HB5⟩
set_option maxRecDepth 100000 in
set_option maxHeartbeats 8000000 in
theorem rway_any : ∀ (n m : Nat) (known : Bool) (w : World), 1 ≤ m → m ≤ n → n ≤ 1099511627776 →
    Calls Tryd.prog 66 #[.int .i64 (m : Int), .int .i64 (n : Int), .bool known] w fun e w' => ∃ v, e = .returned (.tuple #[v, .bool (wayL m n known).2]) ∧ Below w.heap.size w w' ∧ Bls w' w.heap.size v (wayL m n known).1 := by
  intro n
  induction n using Nat.strongRecOn with
  | _ n ih =>
  intro m known w hm1 hmn hN
  by_cases hm : m = n
  · subst hm
    rw [wayL_all]
    clear ih hm1 hmn hN
    go_enter Tryd.func66, Tryd.ntmps66
    go_wp2_with fail
    go_ret2
    exact ⟨_, rfl, Below.refl _ _, Bls.nil _ _⟩
  have h2 : 2 ≤ n := by omega
  have hh := half_lt h2
  have hhp := half_pos n
  have HHF := hide (fun w => rhalf_any n w h2 (by omega))
  have n1 : ((m : Int) == (n : Int)) = false := beq_eq_false_iff_ne.2 (by omega)
  have n2 : ¬ (m : Int) = (n : Int) := by omega
  by_cases hik : m ≤ half n
  · have HI1 := hide (ih (half n) (by omega) m known w (by omega) (by omega) (by omega))
    rw [wayL_low hm h2 hik]
    have hl := way_40 (half n) m known (by omega)
    obtain ⟨S, hS⟩ : ∃ S, (wayL m (half n) known).1 = S := ⟨_, rfl⟩
    obtain ⟨bb, hbb⟩ : ∃ S, (wayL m (half n) known).2 = S := ⟨_, rfl⟩
    rw [hS] at HI1 hl ⊢
    rw [hbb] at HI1 ⊢
    obtain ⟨k, hk⟩ : ∃ k, half n = k := ⟨_, rfl⟩
    rw [hk] at HHF HI1 hh hhp hik
    have ik : (m : Int) ≤ (k : Int) := by omega
    have nI : (n : Int) ≤ 1099511627776 := by omega
    have kI : (k : Int) < (n : Int) := by omega
    have k1 : (1 : Int) ≤ (k : Int) := by omega
    have iI : (m : Int) ≤ (n : Int) := by omega
    clear ih hm1 hmn hm h2 hh hhp hik hk hS hN hbb
    go_enter Tryd.func66, Tryd.ntmps66
    go_wp2_with fail
    refine Calls.mono (unhide HHF _) ?_
    rintro e w2 ⟨rfl, rfl⟩
    go_wp2_with fail
    refine Calls.mono (unhide HI1) ?_
    rintro e w3 ⟨v, rfl, b3, S3⟩
    have HB3 := hide b3
    have HS3 := hide S3
    clear b3 S3 HI1
    go_wp2_with (refine wpList_append_bool rfl _ _ rfl w.heap.size v S false rfl (unhide HS3) (by omega) (unhide HB3).size rfl (fun v' w' hv' hb' => ?_); have HV' := hide hv'; have HB' := hide hb'; clear hv' hb')
    go_ret2
    exact ⟨_, rfl, (unhide HB3).trans (unhide HB'), unhide HV'⟩
  · have HI1 := hide (ih (n - half n) (by omega) (m - half n) false w (by omega) (by omega) (by omega))
    rw [wayL_high hm h2 hik]
    have hl := way_40 (n - half n) (m - half n) false (by omega)
    obtain ⟨S, hS⟩ : ∃ S, (wayL (m - half n) (n - half n) false).1 = S := ⟨_, rfl⟩
    obtain ⟨bb, hbb⟩ : ∃ S, (wayL (m - half n) (n - half n) false).2 = S := ⟨_, rfl⟩
    rw [hS] at HI1 hl ⊢
    rw [hbb] at HI1 ⊢
    obtain ⟨k, hk⟩ : ∃ k, half n = k := ⟨_, rfl⟩
    rw [hk] at HHF HI1 hh hhp hik
    have e2 : ((n - k : Nat) : Int) = (n : Int) - (k : Int) := by omega
    have e3 : ((m - k : Nat) : Int) = (m : Int) - (k : Int) := by omega
    rw [e2, e3] at HI1
    have ik : ¬ (m : Int) ≤ (k : Int) := by omega
    have nI : (n : Int) ≤ 1099511627776 := by omega
    have kI : (k : Int) < (n : Int) := by omega
    have k1 : (1 : Int) ≤ (k : Int) := by omega
    have iI : (m : Int) ≤ (n : Int) := by omega
    clear ih hm1 hmn hm h2 hh hhp hik hk hS hN hbb e2 e3
    go_enter Tryd.func66, Tryd.ntmps66
    go_wp2_with fail
    refine Calls.mono (unhide HHF _) ?_
    rintro e w2 ⟨rfl, rfl⟩
    go_wp2_with fail
    refine Calls.mono (unhide HI1) ?_
    rintro e w3 ⟨v, rfl, b3, S3⟩
    have HB3 := hide b3
    have HS3 := hide S3
    clear b3 S3 HI1
    go_wp2_with (refine wpList_append_bool rfl _ _ rfl w.heap.size v S true rfl (unhide HS3) (by omega) (unhide HB3).size rfl (fun v' w' hv' hb' => ?_); have HV' := hide hv'; have HB' := hide hb'; clear hv' hb')
    go_ret2
    exact ⟨_, rfl, (unhide HB3).trans (unhide HB'), unhide HV'⟩
end Go.Proofs.YtonkgiiacholeaaDoor
