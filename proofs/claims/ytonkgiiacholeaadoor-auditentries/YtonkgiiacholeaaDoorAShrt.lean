/- Whether entries may be gone through: what short tells. -/
import Derived.Test.YtonkgiiacholeaaDoorAProof
namespace Go.Proofs.YtonkgiiacholeaaDoor
set_option linter.unusedVariables false
set_option linter.unusedSimpArgs false
open Go.ChangeShapes Go.WideShapes Go.ChangeAt Go.RowKit Go.Joins

theorem ll_shape {w : World} {v : Value} {P : List (Value × List Nat)} (h : LL w v P) : ∃ a c, v = .slice a P.length c ∧ P.length ≤ c := by
  obtain ⟨a, c, h1, h2, _⟩ := h
  exact ⟨a, c, h1, h2.1⟩
/-- what short tells -/
def ShR (P : List (Value × List Nat)) (n : Nat) (w : World) (e : Ending) (w' : World) : Prop := ∃ b, e = .returned (.bool b) ∧ w = w' ∧ (b = true → n ≤ 40 ∧ ∀ x ∈ P, x.2.length ≤ 4096)
theorem ShR.no (P : List (Value × List Nat)) (n : Nat) (w : World) : ShR P n w (.returned (.bool false)) w := ⟨false, rfl, rfl, fun h => nomatch h⟩
theorem ShR.yes {P : List (Value × List Nat)} {n : Nat} (w : World) (h : n ≤ 40 ∧ ∀ x ∈ P, x.2.length ≤ 4096) : ShR P n w (.returned (.bool true)) w := ⟨true, rfl, rfl, fun _ => h⟩
def ShI (P : List (Value × List Nat)) (n : Nat) (w : World) (s i : Value) (wr : World) : Prop := ∃ (j N : Nat), s = .int .i64 (N : Int) ∧ i = .int .i64 (j : Int) ∧ j ≤ n ∧ j ≤ 41 ∧ N ≤ 4097 * j ∧ Hid (∀ x ∈ P.take j, min x.2.length 4097 ≤ N) ∧ w = wr
set_option maxRecDepth 100000 in
set_option maxHeartbeats 8000000 in
theorem short_any (P : List (Value × List Nat)) (a : Option Addr) (n c : Nat) (w : World) (hn : P.length = n) (hL : LL w (.slice a n c) P) :
    Calls Tryd.prog 20 #[.slice a n c] w fun e w' => ShR P n w e w' := by
  have HL := hide hL
  have HN := hide hn
  clear hL hn
  go_enter Tryd.func20, Tryd.ntmps20
  go_wp2_with fail
  go_loopw [3, 4] (fun s i wr => ShI P n w s i wr) (fun s i _ => (41 - intOf i).toNat)
  case atStart => exact ⟨0, 0, by simp, by simp, by omega, by omega, by omega, hide (by simp), rfl⟩
  case round =>
    obtain ⟨j, M, rfl, rfl, hj, hj2, hM, HI, rfl⟩ := hrel
    have mI : (M : Int) ≤ 167977 := by omega
    have jI : (j : Int) ≤ 41 := by omega
    by_cases hgo : j < n ∧ j ≤ 40 ∧ M ≤ 4096
    · obtain ⟨g1, g2, g3⟩ := hgo
      have i1 : (j : Int) < (n : Int) := by omega
      have i2 : (j : Int) ≤ 40 := by omega
      have i3 : (M : Int) ≤ 4096 := by omega
      obtain ⟨x, hx⟩ : ∃ x, P[j]? = some x := ⟨_, List.getElem?_eq_getElem (by have := unhide HN; omega)⟩
      obtain ⟨a', c', hv, hc, hcell⟩ := unhide HL
      obtain ⟨⟨b, hb, hcb⟩, hY⟩ := hcell j x.1 x.2 hx
      obtain ⟨ha', -, -⟩ : a = a' ∧ n = P.length ∧ c = c' := by simpa using hv
      subst ha'
      subst hb
      obtain ⟨xa, xc, hxv⟩ : ∃ a cap, x.1 = .slice a x.2.length cap := by
        rcases hY with ⟨h1, h2⟩ | ⟨a, cap, h1, _⟩
        · exact ⟨none, 0, by rw [h1, h2]; rfl⟩
        · exact ⟨_, _, h1⟩
      rw [hxv] at hcb
      obtain ⟨m, hm⟩ : ∃ m, x.2.length = m := ⟨_, rfl⟩
      rw [hm] at hcb
      obtain ⟨u, hu⟩ : ∃ u : Nat, min m 4097 = u := ⟨_, rfl⟩
      have huI : min (m : Int) 4097 = (u : Int) := by omega
      have u1 : (u : Int) ≤ 4097 := by omega
      have HNX : Hid (∀ y ∈ P.take (j + 1), min y.2.length 4097 ≤ M + u) := hide (fun y hy => by
        rw [List.take_add_one, hx] at hy
        rcases List.mem_append.1 hy with hy | hy
        · have := unhide HI y hy; omega
        · obtain rfl : y = x := by simpa using hy
          rw [hm]; omega)
      have HU := hide hu
      clear hu hm hY hv hcell hc hxv hx
      go_wp2_with fail
      go_roundw
      case rel =>
        exact ⟨j + 1, M + u, congrArg (Value.int IntKind.i64) (by omega), congrArg (Value.int IntKind.i64) (by omega), by omega, by omega, by omega, HNX, rfl⟩
      case measure => simp [intOf]; omega
    · have HG := hide hgo
      by_cases c1 : j < n
      · by_cases c2 : j ≤ 40
        · have i1 : (j : Int) < (n : Int) := by omega
          have i2 : (j : Int) ≤ 40 := by omega
          have i3 : ¬ (M : Int) ≤ 4096 := by omega
          clear hgo
          go_wp2_with fail
          all_goals go_ret
          all_goals exact ShR.no _ _ _
        · have i1 : (j : Int) < (n : Int) := by omega
          have i2 : ¬ (j : Int) ≤ 40 := by omega
          have i3 : ¬ (n : Int) ≤ 40 := by omega
          clear hgo
          go_wp2_with fail
          all_goals go_ret
          all_goals exact ShR.no _ _ _
      · have i1 : ¬ (j : Int) < (n : Int) := by omega
        clear hgo
        by_cases c2 : n ≤ 40 ∧ M ≤ 4096
        · obtain ⟨c2, c3⟩ := c2
          have i2 : (n : Int) ≤ 40 := by omega
          have i3 : (M : Int) ≤ 4096 := by omega
          have HF : Hid (n ≤ 40 ∧ ∀ x ∈ P, x.2.length ≤ 4096) := hide ⟨c2, fun x hx => by
            have := unhide HI x (by rw [List.take_of_length_le (by have := unhide HN; omega)]; exact hx)
            omega⟩
          go_wp2_with fail
          go_ret
          exact ShR.yes _ (unhide HF)
        · by_cases c3 : n ≤ 40
          · have i2 : (n : Int) ≤ 40 := by omega
            have i3 : ¬ (M : Int) ≤ 4096 := by omega
            go_wp2_with fail
            go_ret
            exact ShR.no _ _ _
          · have i2 : ¬ (n : Int) ≤ 40 := by omega
            go_wp2_with fail
            go_ret
            exact ShR.no _ _ _
end Go.Proofs.YtonkgiiacholeaaDoor
