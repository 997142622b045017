/- Two lists of lists of bytes held against one another. -/
import Derived.Test.YtbahnkomdndmkacDoorRefAll
namespace Go.Proofs.YtbahnkomdndmkacDoor
set_option linter.unusedVariables false
set_option linter.unusedSimpArgs false
open Go.ChangeShapes Go.WideShapes Go.ChangeAt Go.RowKit

theorem equal_same (v x : Value) (l : List Nat) (w : World) (hv : Byt w v l) (hx : Byt w x l) (hl : ∀ y ∈ l, y < 256) :
    Calls Tryd.prog 13 #[v, x] w fun e w' => e = .returned (.bool true) ∧ w = w' := by
  have q := equal_any v x l l w hv hx hl hl
  simpa using q

set_option maxRecDepth 100000 in
set_option maxHeartbeats 4000000 in
theorem eqfunc_any (v x : Value) (ds : List (List Nat)) (b1 b2 : Nat) (w : World) (hv : Lists w b1 v ds) (hx : Lists w b2 x ds) (hl : ds.length ≤ 1000000000) (h256 : ∀ d ∈ ds, ∀ y ∈ d, y < 256) :
    Calls Tryd.prog 37 #[v, x, .func (.func 13) #[] #[]] w fun e w' => e = .returned (.bool true) ∧ w = w' := by
  obtain ⟨vs, v1, v2⟩ := hv
  obtain ⟨xs, x1, x2⟩ := hx
  have hvl : vs.length = ds.length := by have := v1.1; omega
  have hxl : xs.length = ds.length := by have := x1.1; omega
  obtain ⟨n, hn⟩ : ∃ n, ds.length = n := ⟨_, rfl⟩
  rw [hn] at v1 x1 hl hvl hxl
  have HV1 := hide v1
  have HX1 := hide x1
  have HV2 := hide v2
  have HX2 := hide x2
  have HN := hide hn
  have HVL := hide hvl
  have HXL := hide hxl
  have H256 := hide h256
  obtain ⟨a1, c1, rfl⟩ : ∃ a1 c1, v = .slice a1 n c1 := by
    obtain ⟨_, ⟨rfl, rfl⟩ | ⟨g2, c2, _, rfl, _⟩⟩ := v1
    · exact ⟨_, _, rfl⟩
    · exact ⟨_, _, rfl⟩
  obtain ⟨a2, c2, rfl⟩ : ∃ a2 c2, x = .slice a2 n c2 := by
    obtain ⟨_, ⟨rfl, rfl⟩ | ⟨g2, c2, _, rfl, _⟩⟩ := x1
    · exact ⟨_, _, rfl⟩
    · exact ⟨_, _, rfl⟩
  clear v1 x1 v2 x2 hn hvl hxl h256
  go_enter Tryd.func37, Tryd.ntmps37
  go_wp2_with fail
  go_loop [17] (fun i => ∃ j : Nat, j ≤ n ∧ i = .int .i64 (j : Int)) (fun i => n - (intOf i).toNat)
  case atStart => exact ⟨0, by omega, rfl⟩
  case round =>
    obtain ⟨j, hj, rfl⟩ := hrel
    by_cases hlt : j < n
    · have i1 : (j : Int) < (n : Int) := by omega
      have i0 : (0 : Int) ≤ (j : Int) := by omega
      obtain ⟨u1, hu1⟩ : ∃ u, vs[j]? = some u := ⟨_, List.getElem?_eq_getElem (by rw [unhide HVL]; exact hlt)⟩
      obtain ⟨u2, hu2⟩ : ∃ u, xs[j]? = some u := ⟨_, List.getElem?_eq_getElem (by rw [unhide HXL]; exact hlt)⟩
      obtain ⟨d, hd⟩ : ∃ d, ds[j]? = some d := ⟨_, List.getElem?_eq_getElem (by rw [unhide HN]; exact hlt)⟩
      have q1 := unhide HV2 j u1 d hu1 hd
      have q2 := unhide HX2 j u2 d hu2 hd
      have HEQ := hide (equal_same u1 u2 d w (Byt.of_own q1) (Byt.of_own q2) (unhide H256 d (List.mem_of_getElem? hd)))
      obtain ⟨_, ⟨h0, h1⟩ | ⟨g1, p1, r1, h0, _⟩⟩ := id (unhide HV1)
      · omega
      injection h0 with e1 _ e3
      subst e1 e3
      obtain ⟨_, ⟨h0, h1⟩ | ⟨g2, p2, r2, h0, _⟩⟩ := id (unhide HX1)
      · omega
      injection h0 with e1 _ e3
      subst e1 e3
      have k1 := (unhide HV1).cellAt j (by omega)
      have k2 := (unhide HX1).cellAt j (by omega)
      rw [hu1] at k1
      rw [hu2] at k2
      clear q1 q2 hu1 hu2 hd
      go_wp2_with fail
      refine (unhide HEQ).mono ?_
      rintro e w1 ⟨rfl, rfl⟩
      go_wp2_with fail
      go_round
      case rel => exact ⟨j + 1, by omega, by go_num⟩
      case measure => simp [intOf]; omega
    · obtain rfl : j = n := by omega
      have i1 : ¬ (j : Int) < (j : Int) := by omega
      go_wp2_with fail
      go_ret
      exact ⟨rfl, rfl⟩
end Go.Proofs.YtbahnkomdndmkacDoor
