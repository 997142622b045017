/- Lists of bodies that are the same; moves that come in. -/
import Derived.Test.YtmkpphkdaiienaaCFl
import Derived.Test.YtmkpphkdaiienaaCDo
namespace Go.Proofs.Ytmkpphkdaiienaa
set_option linter.unusedVariables false
set_option linter.unusedSimpArgs false
open Go.ChangeShapes Go.WideShapes Go.ChangeAt Go.RowKit Go.Joins Go.Deep

/-- a list of bodies as it is read -/
structure LsAt (w : World) (a : Option Addr) (L : List VB) : Prop where
  cell : L = [] ∨ ∃ b off, a = some ⟨b, off, none⟩ ∧ ∀ (i : Nat) (x : VB), L[i]? = some x → w.cell? ⟨b, off + i, none⟩ = some x.1
  byt : ∀ x ∈ L, Byt w x.1 x.2
set_option maxRecDepth 100000 in
set_option maxHeartbeats 4000000 in
theorem equal_same (v u : Value) (l : List Nat) (w : World) (h1 : Byt w v l) (h2 : Byt w u l) (h256 : ∀ y ∈ l, y < 256) : Calls Try.prog 53 #[v, u] w fun r w' => r = .returned (.bool true) ∧ w = w' := by
  obtain ⟨a1, c1, hv⟩ := byt_shape h1
  obtain ⟨a2, c2, hu⟩ := byt_shape h2
  have k1 := byt_convert h1 h256
  have k2 := byt_convert h2 h256
  subst hv hu
  clear h1 h2
  go_enter Try.func53, Try.ntmps53
  go_wp2_with fail
  go_ret
  exact ⟨by simp, rfl⟩
set_option maxRecDepth 100000 in
set_option maxHeartbeats 4000000 in
theorem eqf_same (a1 a2 : Option Addr) (n c1 c2 : Nat) (L1 L2 : List VB) (w : World) (h1 : LsAt w a1 L1) (h2 : LsAt w a2 L2) (hn1 : L1.length = n) (hn2 : L2.length = n) (he : L1.map Prod.snd = L2.map Prod.snd) (h256 : ∀ x ∈ L1, ∀ y ∈ x.2, y < 256) (hc1 : n ≤ c1) (hc2 : n ≤ c2) (hn : n ≤ 1000000) :
    Calls Try.prog 52 #[.slice a1 n c1, .slice a2 n c2, .func (.func 53) #[] #[]] w fun r w' => r = .returned (.bool true) ∧ w = w' := by
  have H1 := hide h1
  have H2 := hide h2
  have HN1 := hide hn1
  have HN2 := hide hn2
  have HE := hide he
  have H256 := hide h256
  clear h1 h2 hn1 hn2 he h256
  go_enter Try.func52, Try.ntmps52
  go_wp2_with fail
  go_loop [17] (fun i => ∃ k : Nat, k ≤ n ∧ i = .int .i64 (k : Int)) (fun i => n - (intOf i).toNat)
  case atStart => exact ⟨0, by omega, rfl⟩
  case round =>
    obtain ⟨k, hk, rfl⟩ := hrel
    by_cases g1 : k < n
    · have i1 : (k : Int) < (n : Int) := by omega
      have i0 : (0 : Int) ≤ (k : Int) := by omega
      obtain ⟨x1, e1⟩ : ∃ x, L1[k]? = some x := ⟨_, List.getElem?_eq_getElem (by rw [unhide HN1]; exact g1)⟩
      obtain ⟨x2, e2⟩ : ∃ x, L2[k]? = some x := ⟨_, List.getElem?_eq_getElem (by rw [unhide HN2]; exact g1)⟩
      have hs : x1.2 = x2.2 := by
        have := congrArg (·[k]?) (unhide HE)
        simp only [List.getElem?_map, e1, e2, Option.map_some, Option.some.injEq] at this
        exact this
      rcases (unhide H1).cell with h0 | ⟨g1', o1, rfl, hx1⟩
      · rw [h0] at e1; simp at e1
      rcases (unhide H2).cell with h0 | ⟨g2', o2, rfl, hx2⟩
      · rw [h0] at e2; simp at e2
      have q1 := hx1 k x1 e1
      have q2 := hx2 k x2 e2
      clear hx1 hx2
      have HQ := hide (equal_same x1.1 x2.1 x1.2 w ((unhide H1).byt x1 (List.mem_of_getElem? e1)) (by rw [hs]; exact (unhide H2).byt x2 (List.mem_of_getElem? e2)) (unhide H256 x1 (List.mem_of_getElem? e1)))
      obtain ⟨u1, hu1⟩ : ∃ z, x1.1 = z := ⟨_, rfl⟩
      obtain ⟨u2, hu2⟩ : ∃ z, x2.1 = z := ⟨_, rfl⟩
      rw [hu1] at q1 HQ
      rw [hu2] at q2 HQ
      clear e1 e2 hs hu1 hu2
      go_wp2_with fail
      refine Calls.mono (unhide HQ) ?_
      rintro r w' ⟨rfl, rfl⟩
      go_wp2_with fail
      go_round
      case rel => exact ⟨k + 1, by omega, by go_num⟩
      case measure => simp [intOf]; omega
    · have i1 : ¬ (k : Int) < (n : Int) := by omega
      go_wp2_with fail
      go_ret
      exact ⟨rfl, rfl⟩
end Go.Proofs.Ytmkpphkdaiienaa
