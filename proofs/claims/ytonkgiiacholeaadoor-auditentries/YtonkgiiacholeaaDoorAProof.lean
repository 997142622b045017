/- What a log tells as proofs, and whether digests prove: beside, behind, Prove, Grown, cutLast, lead, Proves, slices.Equal, and the example's numbers. -/
import Derived.Test.YtonkgiiacholeaaDoorARoot
import Derived.Test.YtonkgiiacholeaaDoorALaid
namespace Go.Proofs.YtonkgiiacholeaaDoor
set_option linter.unusedVariables false
set_option linter.unusedSimpArgs false
open Go.ChangeShapes Go.WideShapes Go.ChangeAt Go.RowKit Go.Joins

/-- digests in a slice of one's own -/
def Sms (w : World) (B : Nat) (v : Value) (L : List (List Nat)) : Prop := w.ownsRow B 43 32 v L.length (bv L.flatten) ∧ ∀ s ∈ L, s.length = 32 ∧ U8 s
theorem Sms.nil (w : World) (B : Nat) : Sms w B (.slice none 0 0) [] := ⟨World.ownsRow_nil w B 43 32, fun _ h => nomatch h⟩
theorem Sms.call {w w' : World} {B : Nat} {v : Value} {L : List (List Nat)} (h : Sms w B v L) (hb : Below w.heap.size w w') : Sms w' B v L :=
  ⟨own_only h.1 (Only.of_below (p := fun _ => False) hb) (fun _ _ h => h), h.2⟩
theorem Sms.alloc {w : World} {B : Nat} {v : Value} {L : List (List Nat)} (h : Sms w B v L) (o : Obj) : Sms (w.alloc o) B v L := ⟨h.1.alloc o, h.2⟩
theorem Sms.mono {w : World} {B B' : Nat} {v : Value} {L : List (List Nat)} (h : Sms w B v L) (hb : B' ≤ B) : Sms w B' v L := by
  refine ⟨?_, h.2⟩
  obtain ⟨h1, h2⟩ := h.1
  refine ⟨h1, ?_⟩
  rcases h2 with h2 | ⟨g, cap, cur, e1, e2, e3⟩
  · exact .inl h2
  · exact .inr ⟨g, cap, cur, e1, Nat.le_trans hb e2, e3⟩
theorem bv_app (a b : List Nat) : bv (a ++ b) = bv a ++ bv b := by simp [bv]
theorem wpList_append_sum {ops : Array Oper} {rest : List Oper} {o : Oper} {a : Act} {Q : Exit → Act → World → Prop} {W : World} (hgd : o.guard = none) (s x : Operand)
    (ho : o.op = .call { callee := .builtin .append, args := #[s, x], argTypes := #[54, 54] }) (B : Nat) (v : Value) (L : List (List Nat)) (D : List Nat) {A : Array Value} (hA : (bv D).toArray = A) (hD : D.length = 32 ∧ U8 D)
    (hs : a.eval s = v) (hv : Sms W B v L) (hL : L.length ≤ 1000) (hB : B ≤ W.heap.size) (hx : a.eval x = .slice (some ⟨W.heap.size, 0, none⟩) 1 1)
    (h : ∀ v' w', Sms w' B v' (L ++ [D]) → Below B W w' → wpList Tryd.prog ops Q rest (a.put o.dst v') w') : wpList Tryd.prog ops Q (o :: rest) a (W.alloc (.cells A 43)) := by
  obtain ⟨i43, hi43, hz43, hs43, hb43⟩ := info_parts info43
  have hzz : (Value.agg (bv (List.replicate 32 0)).toArray).cells.size = 32 := by simp [Value.cells, bv]
  have nw : ∀ k u, (bv D)[k]? = some u → (W.alloc (.cells A 43)).cell? ((⟨W.heap.size, 0, none⟩ : Addr).add k) = some u := by
    intro k u hk
    rw [← hA, add_plain, Nat.zero_add, (RowAt.new W 43 (bv D)).cell]
    exact hk
  refine wpList_append_lies _ hgd s x 54 ho B 43 i43 (.agg (bv (List.replicate 32 0)).toArray) 32 32 Tryd.underlying54 hi43 hz43 hs43 hb43 hzz (by decide) v L.length (bv L.flatten) hs (hv.alloc _).1 ⟨W.heap.size, 0, none⟩ 1 1 (bv D) hx (by rw [bv_len, hD.1]) nw (bv_one _) (by decide) (by unfold maxLen; omega) (by omega) (by rw [size_alloc]; omega) (W.heap.size + 1) (size_alloc _ _) ?_
  intro g cap w' own grow lies lt
  refine h _ w' ⟨?_, ?_⟩ ?_
  · rw [List.length_append, List.flatten_append, List.flatten_cons, List.flatten_nil, List.append_nil, bv_app]
    exact own
  · intro s hs
    rcases List.mem_append.1 hs with hs | hs
    · exact hv.2 s hs
    · obtain rfl := List.mem_singleton.1 hs; exact hD
  · exact ((Below.refl B W).alloc hB _).trans ((grown_only grow).below (by rw [size_alloc]; omega) (fun k hk => (hv.1.lt k hk).1))
theorem proveL_ok : ∀ (n : Nat) (X : List (List Nat)) (i : Nat), X.length = n → (proveL X i).length ≤ n := by
  intro n
  induction n using Nat.strongRecOn with
  | _ n ih =>
  intro X i hX
  by_cases h2 : 2 ≤ X.length
  · have hh := half_lt h2
    have hp := half_pos X.length
    by_cases hi : i < half X.length
    · rw [proveL_low h2 hi, List.length_append, List.length_singleton]
      have := ih (half X.length) (by omega) (X.take (half X.length)) i (by rw [List.length_take]; omega)
      omega
    · rw [proveL_high h2 hi, List.length_append, List.length_singleton]
      have := ih (X.length - half X.length) (by omega) (X.drop (half X.length)) (i - half X.length) (by rw [List.length_drop])
      omega
  · rw [proveL_one h2]; exact Nat.zero_le _
set_option maxRecDepth 100000 in
set_option maxHeartbeats 8000000 in
theorem beside_log (g : Nat) (E : List (List Nat)) (τ : Nat → Int) (hE : E.length ≤ 1000) : ∀ (n a i : Nat) (w : World), Tabs w → LogAt w τ g E → i < n → a + n ≤ E.length → Al a n →
    Calls Tryd.prog 61 #[.pointer (some ⟨g, 0, none⟩), .int .i64 (a : Int), .int .i64 (i : Int), .int .i64 (n : Int)] w fun e w' => ∃ v, e = .returned v ∧ Below w.heap.size w w' ∧ Sms w' w.heap.size v (proveL (cutE E a n) i) := by
  intro n
  induction n using Nat.strongRecOn with
  | _ n ih =>
  intro a i w hT hL hi ha hal
  by_cases h1 : n = 1
  · subst h1
    rw [proveL_one (by rw [cutE_len ha]; decide)]
    clear ih hT hL hi ha hal hE
    go_enter Tryd.func61, Tryd.ntmps61
    go_wp2_with fail
    go_ret
    exact ⟨_, rfl, Below.refl _ _, Sms.nil _ _⟩
  have h2 : 2 ≤ n := by omega
  have hh := half_lt h2
  have hhp := half_pos n
  have HHF := hide (fun w => half_any n w h2 (by omega))
  have hcl := cutE_len ha
  by_cases hik : i < half n
  · have HI1 := hide (ih (half n) hh a i w hT hL hik (by omega) (hal.less (by omega)))
    have HDG := hide (fun w' hw' => digest_log g E τ hE (n - half n) (a + half n) w' (hT.below hw') (hL.call hw') (by omega) (by omega) (hal.next h2))
    have e0 : proveL (cutE E a n) i = proveL (cutE E a (half n)) i ++ [digL (cutE E (a + half n) (n - half n))] := by
      rw [proveL_low (by omega) (by rw [hcl]; exact hik), hcl, cutE_take (by omega), cutE_drop (by omega)]
    rw [e0]
    have hPL : (proveL (cutE E a (half n)) i).length ≤ 1000 := Nat.le_trans (proveL_ok _ _ _ (cutE_len (by omega))) (by omega)
    have u1 := digL_8 ((cutE E (a + half n) (n - half n)))
    have l1 := digL_len ((cutE E (a + half n) (n - half n)))
    obtain ⟨D, hD⟩ : ∃ D, digL (cutE E (a + half n) (n - half n)) = D := ⟨_, rfl⟩
    obtain ⟨L, hL'⟩ : ∃ L, proveL (cutE E a (half n)) i = L := ⟨_, rfl⟩
    rw [hD] at HDG u1 l1 ⊢
    rw [hL'] at HI1 hPL ⊢
    obtain ⟨A, hA⟩ : ∃ A, (bv D).toArray = A := ⟨_, rfl⟩
    rw [hA] at HDG
    obtain ⟨k, hk⟩ : ∃ k, half n = k := ⟨_, rfl⟩
    rw [hk] at HHF HI1 HDG hh hhp hik
    have e1 : ((a + k : Nat) : Int) = (a : Int) + (k : Int) := by omega
    have e2 : ((n - k : Nat) : Int) = (n : Int) - (k : Int) := by omega
    rw [e1, e2] at HDG
    have aI : (a : Int) ≤ 1000 := by omega
    have nI : (n : Int) ≤ 1000 := by omega
    have kI : (k : Int) < (n : Int) := by omega
    have k1 : (1 : Int) ≤ (k : Int) := by omega
    have n1 : ((n : Int) == 1) = false := beq_eq_false_iff_ne.2 (by omega)
    have ik : (i : Int) < (k : Int) := by omega
    have asz : A.size = 32 := by rw [← hA, List.size_toArray, bv_len, l1]
    have HFO := hide (fun (Zx : Array Value) (hz : Zx.size = 32) => fold_build A Zx 32 asz hz)
    have HA := hide hA
    have HDD := hide (And.intro l1 u1)
    have HPL := hide hPL
    clear ih hT hL hi ha hal h1 h2 hh hhp hcl hik hk hD hL' hA u1 l1 hPL e0 e1 e2 hE
    go_enter Tryd.func61, Tryd.ntmps61
    go_wp2_with fail
    refine Calls.mono (unhide HHF _) ?_
    rintro e w2 ⟨rfl, rfl⟩
    go_wp2_with fail
    refine Calls.mono (unhide HI1) ?_
    rintro e w3 ⟨v, rfl, b3, S3⟩
    have HB3 := hide b3
    have HS3 := hide S3
    clear b3 S3 HI1 HHF
    go_wp2_with fail
    refine Calls.mono (unhide HDG _ (unhide HB3)) ?_
    rintro e w4 ⟨rfl, b4⟩
    have HB4 := hide ((unhide HB3).trans (b4.mono (unhide HB3).size))
    have HS4 := hide ((unhide HS3).call b4)
    clear b4 HB3 HS3 HDG
    go_wp2_with (at_builtin; refine wpList_append_sum rfl _ _ rfl w.heap.size v L D ?cA (unhide HDD) rfl (unhide HS4) (unhide HPL) (unhide HB4).size rfl ?_)
    case cA => rw [unhide HA]; exact (unhide HFO _ rfl).symm
    intro v' w5 S5 b5
    have HS5 := hide S5
    have HB5 := hide ((unhide HB4).trans b5)
    clear S5 b5
    go_wp2_with fail
    go_ret
    exact ⟨_, rfl, unhide HB5, unhide HS5⟩
  · have HI1 := hide (ih (n - half n) (by omega) (a + half n) (i - half n) w hT hL (by omega) (by omega) (hal.next h2))
    have HDG := hide (fun w' hw' => digest_log g E τ hE (half n) a w' (hT.below hw') (hL.call hw') hhp (by omega) (hal.less (by omega)))
    have e0 : proveL (cutE E a n) i = proveL (cutE E (a + half n) (n - half n)) (i - half n) ++ [digL (cutE E a (half n))] := by
      rw [proveL_high (by omega) (by rw [hcl]; exact hik), hcl, cutE_take (by omega), cutE_drop (by omega)]
    rw [e0]
    have hPL : (proveL (cutE E (a + half n) (n - half n)) (i - half n)).length ≤ 1000 := Nat.le_trans (proveL_ok _ _ _ (cutE_len (by omega))) (by omega)
    have u1 := digL_8 ((cutE E a (half n)))
    have l1 := digL_len ((cutE E a (half n)))
    obtain ⟨D, hD⟩ : ∃ D, digL (cutE E a (half n)) = D := ⟨_, rfl⟩
    obtain ⟨L, hL'⟩ : ∃ L, proveL (cutE E (a + half n) (n - half n)) (i - half n) = L := ⟨_, rfl⟩
    rw [hD] at HDG u1 l1 ⊢
    rw [hL'] at HI1 hPL ⊢
    obtain ⟨A, hA⟩ : ∃ A, (bv D).toArray = A := ⟨_, rfl⟩
    rw [hA] at HDG
    obtain ⟨k, hk⟩ : ∃ k, half n = k := ⟨_, rfl⟩
    rw [hk] at HHF HI1 HDG hh hhp hik
    have e1 : ((a + k : Nat) : Int) = (a : Int) + (k : Int) := by omega
    have e2 : ((n - k : Nat) : Int) = (n : Int) - (k : Int) := by omega
    have e3 : ((i - k : Nat) : Int) = (i : Int) - (k : Int) := by omega
    rw [e1, e2, e3] at HI1
    have aI : (a : Int) ≤ 1000 := by omega
    have nI : (n : Int) ≤ 1000 := by omega
    have kI : (k : Int) < (n : Int) := by omega
    have k1 : (1 : Int) ≤ (k : Int) := by omega
    have n1 : ((n : Int) == 1) = false := beq_eq_false_iff_ne.2 (by omega)
    have ik : ¬ (i : Int) < (k : Int) := by omega
    have iI : (i : Int) < (n : Int) := by omega
    have asz : A.size = 32 := by rw [← hA, List.size_toArray, bv_len, l1]
    have HFO := hide (fun (Zx : Array Value) (hz : Zx.size = 32) => fold_build A Zx 32 asz hz)
    have HA := hide hA
    have HDD := hide (And.intro l1 u1)
    have HPL := hide hPL
    clear ih hT hL hi ha hal h1 h2 hh hhp hcl hik hk hD hL' hA u1 l1 hPL e0 e1 e2 e3 hE
    go_enter Tryd.func61, Tryd.ntmps61
    go_wp2_with fail
    refine Calls.mono (unhide HHF _) ?_
    rintro e w2 ⟨rfl, rfl⟩
    go_wp2_with fail
    refine Calls.mono (unhide HI1) ?_
    rintro e w3 ⟨v, rfl, b3, S3⟩
    have HB3 := hide b3
    have HS3 := hide S3
    clear b3 S3 HI1 HHF
    go_wp2_with fail
    refine Calls.mono (unhide HDG _ (unhide HB3)) ?_
    rintro e w4 ⟨rfl, b4⟩
    have HB4 := hide ((unhide HB3).trans (b4.mono (unhide HB3).size))
    have HS4 := hide ((unhide HS3).call b4)
    clear b4 HB3 HS3 HDG
    go_wp2_with (at_builtin; refine wpList_append_sum rfl _ _ rfl w.heap.size v L D ?cA (unhide HDD) rfl (unhide HS4) (unhide HPL) (unhide HB4).size rfl ?_)
    case cA => rw [unhide HA]; exact (unhide HFO _ rfl).symm
    intro v' w5 S5 b5
    have HS5 := hide S5
    have HB5 := hide ((unhide HB4).trans b5)
    clear S5 b5
    go_wp2_with fail
    go_ret
    exact ⟨_, rfl, unhide HB5, unhide HS5⟩
end Go.Proofs.YtonkgiiacholeaaDoor

namespace Go.Proofs.YtonkgiiacholeaaDoor
set_option linter.unusedVariables false
set_option linter.unusedSimpArgs false
open Go.ChangeShapes Go.WideShapes Go.ChangeAt Go.RowKit Go.Joins

theorem grownL_all {X : List (List Nat)} {m : Nat} {b : Bool} (h : m = X.length) : grownL X m b = if b then [] else [digL X] := by rw [grownL, if_pos h]
theorem grownL_low {X : List (List Nat)} {m : Nat} {b : Bool} (h1 : m ≠ X.length) (h : 2 ≤ X.length) (hi : m ≤ half X.length) : grownL X m b = grownL (X.take (half X.length)) m b ++ [digL (X.drop (half X.length))] := by
  rw [grownL, if_neg h1, dif_pos h, if_pos hi]
theorem grownL_high {X : List (List Nat)} {m : Nat} {b : Bool} (h1 : m ≠ X.length) (h : 2 ≤ X.length) (hi : ¬ m ≤ half X.length) : grownL X m b = grownL (X.drop (half X.length)) (m - half X.length) false ++ [digL (X.take (half X.length))] := by
  rw [grownL, if_neg h1, dif_pos h, if_neg hi]
theorem grownL_ok : ∀ (n : Nat) (X : List (List Nat)) (m : Nat) (b : Bool), X.length = n → 1 ≤ n → (grownL X m b).length ≤ n := by
  intro n
  induction n using Nat.strongRecOn with
  | _ n ih =>
  intro X m b hX hn
  by_cases h1 : m = X.length
  · rw [grownL_all h1]
    cases b
    · exact hn
    · exact Nat.zero_le _
  by_cases h2 : 2 ≤ X.length
  · have hh := half_lt h2
    have hp := half_pos X.length
    by_cases hi : m ≤ half X.length
    · rw [grownL_low h1 h2 hi, List.length_append, List.length_singleton]
      have := ih (half X.length) (by omega) (X.take (half X.length)) m b (by rw [List.length_take]; omega) (by omega)
      omega
    · rw [grownL_high h1 h2 hi, List.length_append, List.length_singleton]
      have := ih (X.length - half X.length) (by omega) (X.drop (half X.length)) (m - half X.length) false (by rw [List.length_drop]) (by omega)
      omega
  · rw [grownL, if_neg h1, dif_neg h2]; exact Nat.zero_le _
theorem Sms.one {W : World} {D : List Nat} {A : Array Value} (hA : (bv D).toArray = A) (hD : D.length = 32 ∧ U8 D) {B : Nat} (hB : B ≤ W.heap.size) : Sms (W.alloc (.cells A 43)) B (.slice (some ⟨W.heap.size, 0, none⟩) 1 1) [D] := by
  refine ⟨?_, fun s hs => by obtain rfl := List.mem_singleton.1 hs; exact hD⟩
  have h := World.ownsRow_lit (base := B) (e := 43) (size := 32) W A 1 hB (by decide) (by rw [← hA, List.size_toArray, bv_len, hD.1])
  rw [← hA] at h ⊢
  simpa using h
set_option maxRecDepth 100000 in
set_option maxHeartbeats 8000000 in
theorem behind_log (g : Nat) (E : List (List Nat)) (τ : Nat → Int) (hE : E.length ≤ 1000) : ∀ (n a m : Nat) (kn : Bool) (w : World), Tabs w → LogAt w τ g E → 1 ≤ m → m ≤ n → a + n ≤ E.length → Al a n →
    Calls Tryd.prog 64 #[.pointer (some ⟨g, 0, none⟩), .int .i64 (a : Int), .int .i64 (m : Int), .int .i64 (n : Int), .bool kn] w fun e w' => ∃ v, e = .returned v ∧ Below w.heap.size w w' ∧ Sms w' w.heap.size v (grownL (cutE E a n) m kn) := by
  intro n
  induction n using Nat.strongRecOn with
  | _ n ih =>
  intro a m kn w hT hL h1 hi ha hal
  have hcl := cutE_len ha
  by_cases hmn : m = n
  · subst hmn
    rw [grownL_all hcl.symm]
    cases kn with
    | true =>
      clear ih hT hL hi ha hal hE hcl
      go_enter Tryd.func64, Tryd.ntmps64
      go_wp2_with fail
      go_ret
      exact ⟨_, rfl, Below.refl _ _, Sms.nil _ _⟩
    | false =>
      have HDG := hide (digest_log g E τ hE m a w hT hL h1 ha hal)
      have u1 := digL_8 (cutE E a m)
      have l1 := digL_len (cutE E a m)
      rw [if_neg (by decide)]
      obtain ⟨D, hD⟩ : ∃ D, digL (cutE E a m) = D := ⟨_, rfl⟩
      rw [hD] at HDG u1 l1 ⊢
      obtain ⟨A, hA⟩ : ∃ A, (bv D).toArray = A := ⟨_, rfl⟩
      rw [hA] at HDG
      have asz : A.size = 32 := by rw [← hA, List.size_toArray, bv_len, l1]
      have HFO := hide (fun (Zx : Array Value) (hz : Zx.size = 32) => fold_build A Zx 32 asz hz)
      have HA := hide hA
      have HDD := hide (And.intro l1 u1)
      clear ih hT hL hi ha hal hE hcl u1 l1 hA hD
      go_enter Tryd.func64, Tryd.ntmps64
      go_wp2_with fail
      refine Calls.mono (unhide HDG) ?_
      rintro e w4 ⟨rfl, b4⟩
      have HB4 := hide b4
      clear b4 HDG
      go_wp2_with fail
      go_ret
      rw [unhide HFO _ rfl]
      exact ⟨_, rfl, (unhide HB4).alloc (unhide HB4).size _, Sms.one (unhide HA) (unhide HDD) (unhide HB4).size⟩
  have h2 : 2 ≤ n := by omega
  have hh := half_lt h2
  have hhp := half_pos n
  have HHF := hide (fun w => half_any n w h2 (by omega))
  by_cases hik : m ≤ half n
  · have HI1 := hide (ih (half n) hh a m kn w hT hL h1 hik (by omega) (hal.less (by omega)))
    have HDG := hide (fun w' hw' => digest_log g E τ hE (n - half n) (a + half n) w' (hT.below hw') (hL.call hw') (by omega) (by omega) (hal.next h2))
    have e0 : grownL (cutE E a n) m kn = grownL (cutE E a (half n)) m kn ++ [digL (cutE E (a + half n) (n - half n))] := by
      rw [grownL_low (by rw [hcl]; exact hmn) (by omega) (by rw [hcl]; exact hik), hcl, cutE_take (by omega), cutE_drop (by omega)]
    rw [e0]
    have hPL : (grownL (cutE E a (half n)) m kn).length ≤ 1000 := Nat.le_trans (grownL_ok _ _ _ _ (cutE_len (by omega)) (by omega)) (by omega)
    have u1 := digL_8 ((cutE E (a + half n) (n - half n)))
    have l1 := digL_len ((cutE E (a + half n) (n - half n)))
    obtain ⟨D, hD⟩ : ∃ D, digL (cutE E (a + half n) (n - half n)) = D := ⟨_, rfl⟩
    obtain ⟨L, hL'⟩ : ∃ L, grownL (cutE E a (half n)) m kn = L := ⟨_, rfl⟩
    rw [hD] at HDG u1 l1 ⊢
    rw [hL'] at HI1 hPL ⊢
    obtain ⟨A, hA⟩ : ∃ A, (bv D).toArray = A := ⟨_, rfl⟩
    rw [hA] at HDG
    obtain ⟨k, hk⟩ : ∃ k, half n = k := ⟨_, rfl⟩
    rw [hk] at HHF HI1 HDG hh hhp hik
    have e1 : ((a + k : Nat) : Int) = (a : Int) + (k : Int) := by omega
    have e2 : ((n - k : Nat) : Int) = (n : Int) - (k : Int) := by omega
    rw [e1, e2] at HDG
    have aI : (a : Int) ≤ 1000 := by omega
    have nI : (n : Int) ≤ 1000 := by omega
    have kI : (k : Int) < (n : Int) := by omega
    have k1 : (1 : Int) ≤ (k : Int) := by omega
    have n1 : ((m : Int) == (n : Int)) = false := beq_eq_false_iff_ne.2 (by omega)
    have ik : (m : Int) ≤ (k : Int) := by omega
    have asz : A.size = 32 := by rw [← hA, List.size_toArray, bv_len, l1]
    have HFO := hide (fun (Zx : Array Value) (hz : Zx.size = 32) => fold_build A Zx 32 asz hz)
    have HA := hide hA
    have HDD := hide (And.intro l1 u1)
    have HPL := hide hPL
    clear ih hT hL hi ha hal h1 h2 hh hhp hcl hik hk hD hL' hA u1 l1 hPL e0 e1 e2 hE hmn
    go_enter Tryd.func64, Tryd.ntmps64
    go_wp2_with fail
    refine Calls.mono (unhide HHF _) ?_
    rintro e w2 ⟨rfl, rfl⟩
    go_wp2_with fail
    refine Calls.mono (unhide HI1) ?_
    rintro e w3 ⟨v, rfl, b3, S3⟩
    have HB3 := hide b3
    have HS3 := hide S3
    clear b3 S3 HI1 HHF
    go_wp2_with fail
    refine Calls.mono (unhide HDG _ (unhide HB3)) ?_
    rintro e w4 ⟨rfl, b4⟩
    have HB4 := hide ((unhide HB3).trans (b4.mono (unhide HB3).size))
    have HS4 := hide ((unhide HS3).call b4)
    clear b4 HB3 HS3 HDG
    go_wp2_with (at_builtin; refine wpList_append_sum rfl _ _ rfl w.heap.size v L D ?cA (unhide HDD) rfl (unhide HS4) (unhide HPL) (unhide HB4).size rfl ?_)
    case cA => rw [unhide HA]; exact (unhide HFO _ rfl).symm
    intro v' w5 S5 b5
    have HS5 := hide S5
    have HB5 := hide ((unhide HB4).trans b5)
    clear S5 b5
    go_wp2_with fail
    go_ret
    exact ⟨_, rfl, unhide HB5, unhide HS5⟩
  · have HI1 := hide (ih (n - half n) (by omega) (a + half n) (m - half n) false w hT hL (by omega) (by omega) (by omega) (hal.next h2))
    have HDG := hide (fun w' hw' => digest_log g E τ hE (half n) a w' (hT.below hw') (hL.call hw') hhp (by omega) (hal.less (by omega)))
    have e0 : grownL (cutE E a n) m kn = grownL (cutE E (a + half n) (n - half n)) (m - half n) false ++ [digL (cutE E a (half n))] := by
      rw [grownL_high (by rw [hcl]; exact hmn) (by omega) (by rw [hcl]; exact hik), hcl, cutE_take (by omega), cutE_drop (by omega)]
    rw [e0]
    have hPL : (grownL (cutE E (a + half n) (n - half n)) (m - half n) false).length ≤ 1000 := Nat.le_trans (grownL_ok _ _ _ _ (cutE_len (by omega)) (by omega)) (by omega)
    have u1 := digL_8 ((cutE E a (half n)))
    have l1 := digL_len ((cutE E a (half n)))
    obtain ⟨D, hD⟩ : ∃ D, digL (cutE E a (half n)) = D := ⟨_, rfl⟩
    obtain ⟨L, hL'⟩ : ∃ L, grownL (cutE E (a + half n) (n - half n)) (m - half n) false = L := ⟨_, rfl⟩
    rw [hD] at HDG u1 l1 ⊢
    rw [hL'] at HI1 hPL ⊢
    obtain ⟨A, hA⟩ : ∃ A, (bv D).toArray = A := ⟨_, rfl⟩
    rw [hA] at HDG
    obtain ⟨k, hk⟩ : ∃ k, half n = k := ⟨_, rfl⟩
    rw [hk] at HHF HI1 HDG hh hhp hik
    have e1 : ((a + k : Nat) : Int) = (a : Int) + (k : Int) := by omega
    have e2 : ((n - k : Nat) : Int) = (n : Int) - (k : Int) := by omega
    have e3 : ((m - k : Nat) : Int) = (m : Int) - (k : Int) := by omega
    rw [e1, e2, e3] at HI1
    have aI : (a : Int) ≤ 1000 := by omega
    have nI : (n : Int) ≤ 1000 := by omega
    have kI : (k : Int) < (n : Int) := by omega
    have k1 : (1 : Int) ≤ (k : Int) := by omega
    have n1 : ((m : Int) == (n : Int)) = false := beq_eq_false_iff_ne.2 (by omega)
    have ik : ¬ (m : Int) ≤ (k : Int) := by omega
    have iI : (m : Int) ≤ (n : Int) := by omega
    have asz : A.size = 32 := by rw [← hA, List.size_toArray, bv_len, l1]
    have HFO := hide (fun (Zx : Array Value) (hz : Zx.size = 32) => fold_build A Zx 32 asz hz)
    have HA := hide hA
    have HDD := hide (And.intro l1 u1)
    have HPL := hide hPL
    clear ih hT hL hi ha hal h1 h2 hh hhp hcl hik hk hD hL' hA u1 l1 hPL e0 e1 e2 e3 hE hmn
    go_enter Tryd.func64, Tryd.ntmps64
    go_wp2_with fail
    refine Calls.mono (unhide HHF _) ?_
    rintro e w2 ⟨rfl, rfl⟩
    go_wp2_with fail
    refine Calls.mono (unhide HI1) ?_
    rintro e w3 ⟨v, rfl, b3, S3⟩
    have HB3 := hide b3
    have HS3 := hide S3
    clear b3 S3 HI1 HHF
    go_wp2_with fail
    refine Calls.mono (unhide HDG _ (unhide HB3)) ?_
    rintro e w4 ⟨rfl, b4⟩
    have HB4 := hide ((unhide HB3).trans (b4.mono (unhide HB3).size))
    have HS4 := hide ((unhide HS3).call b4)
    clear b4 HB3 HS3 HDG
    go_wp2_with (at_builtin; refine wpList_append_sum rfl _ _ rfl w.heap.size v L D ?cA (unhide HDD) rfl (unhide HS4) (unhide HPL) (unhide HB4).size rfl ?_)
    case cA => rw [unhide HA]; exact (unhide HFO _ rfl).symm
    intro v' w5 S5 b5
    have HS5 := hide S5
    have HB5 := hide ((unhide HB4).trans b5)
    clear S5 b5
    go_wp2_with fail
    go_ret
    exact ⟨_, rfl, unhide HB5, unhide HS5⟩
set_option maxRecDepth 100000 in
set_option maxHeartbeats 8000000 in
theorem prove_log (g : Nat) (E : List (List Nat)) (τ : Nat → Int) (i n : Nat) (w : World) (hT : Tabs w) (hL : LogAt w τ g E) (hE : E.length ≤ 1000) (hi : i < n) (hn : n ≤ E.length) :
    Calls Tryd.prog 31 #[.pointer (some ⟨g, 0, none⟩), .int .i64 (i : Int), .int .i64 (n : Int)] w fun e w' => ∃ v, e = .returned (.tuple #[v, .int .i64 0]) ∧ Below w.heap.size w w' ∧ Sms w' w.heap.size v (proveL (E.take n) i) := by
  have HM := hide (let ⟨ev, hv, h⟩ := hL.row; lmade_any g true ev hv _ h)
  have HLN := hide (len_log g E τ _ hL)
  have HC := hide (beside_log g E τ hE n 0 i w hT hL hi (by omega) (Al.zero n))
  rw [cutE_zero] at HC
  obtain ⟨m, hm⟩ : ∃ m, E.length = m := ⟨_, rfl⟩
  rw [hm] at hn HLN
  have m1 : (m : Int) ≤ 1000 := by omega
  have n1 : ¬ (m : Int) < (n : Int) := by omega
  have q1 : ¬ (i : Int) < 0 := by omega
  have q2 : ¬ (n : Int) ≤ (i : Int) := by omega
  clear hT hL hE hm hi hn
  go_enter Tryd.func31, Tryd.ntmps31
  go_wp2_with fail
  refine Calls.mono (unhide HM) ?_
  rintro e w2 ⟨rfl, rfl⟩
  go_wp2_with fail
  refine Calls.mono (unhide HLN) ?_
  rintro e w2 ⟨rfl, rfl⟩
  go_wp2_with fail
  refine Calls.mono (unhide HC) ?_
  rintro e w3 ⟨v, rfl, b3, S3⟩
  have HF := hide (And.intro b3 S3)
  clear b3 S3 HC
  go_wp2_with fail
  go_ret2
  exact ⟨v, rfl, (unhide HF).1, (unhide HF).2⟩
set_option maxRecDepth 100000 in
set_option maxHeartbeats 8000000 in
theorem grown_log (g : Nat) (E : List (List Nat)) (τ : Nat → Int) (i n : Nat) (w : World) (hT : Tabs w) (hL : LogAt w τ g E) (hE : E.length ≤ 1000) (h1 : 1 ≤ i) (hi : i ≤ n) (hn : n ≤ E.length) :
    Calls Tryd.prog 36 #[.pointer (some ⟨g, 0, none⟩), .int .i64 (i : Int), .int .i64 (n : Int)] w fun e w' => ∃ v, e = .returned (.tuple #[v, .int .i64 0]) ∧ Below w.heap.size w w' ∧ Sms w' w.heap.size v (grownL (E.take n) i true) := by
  have HM := hide (let ⟨ev, hv, h⟩ := hL.row; lmade_any g true ev hv _ h)
  have HLN := hide (len_log g E τ _ hL)
  have HC := hide (behind_log g E τ hE n 0 i true w hT hL h1 hi (by omega) (Al.zero n))
  rw [cutE_zero] at HC
  obtain ⟨m, hm⟩ : ∃ m, E.length = m := ⟨_, rfl⟩
  rw [hm] at hn HLN
  have m1 : (m : Int) ≤ 1000 := by omega
  have n1 : ¬ (m : Int) < (n : Int) := by omega
  have q1 : ¬ (i : Int) < 1 := by omega
  have q2 : ¬ (n : Int) < (i : Int) := by omega
  clear hT hL hE hm hi hn h1
  go_enter Tryd.func36, Tryd.ntmps36
  go_wp2_with fail
  refine Calls.mono (unhide HM) ?_
  rintro e w2 ⟨rfl, rfl⟩
  go_wp2_with fail
  refine Calls.mono (unhide HLN) ?_
  rintro e w2 ⟨rfl, rfl⟩
  go_wp2_with fail
  refine Calls.mono (unhide HC) ?_
  rintro e w3 ⟨v, rfl, b3, S3⟩
  have HF := hide (And.intro b3 S3)
  clear b3 S3 HC
  go_wp2_with fail
  go_ret2
  exact ⟨v, rfl, (unhide HF).1, (unhide HF).2⟩
end Go.Proofs.YtonkgiiacholeaaDoor

namespace Go.Proofs.YtonkgiiacholeaaDoor
set_option linter.unusedVariables false
set_option linter.unusedSimpArgs false
open Go.ChangeShapes Go.WideShapes Go.ChangeAt Go.RowKit Go.Joins

/-- digests that came in -/
def PS (w : World) (v : Value) (L : List (List Nat)) : Prop := ∃ a c, v = .slice a L.length c ∧ L.length ≤ c ∧ L.length ≤ 1000000 ∧ (∀ s ∈ L, s.length = 32 ∧ U8 s) ∧ (L = [] ∨ ∃ g o, a = some ⟨g, o, none⟩ ∧ SS w ⟨g, o, none⟩ L)
theorem PS.call {w w' : World} {v : Value} {L : List (List Nat)} (h : PS w v L) (hb : Below w.heap.size w w') : PS w' v L := by
  obtain ⟨a, c, h1, h2, h3, h4, h5⟩ := h
  refine ⟨a, c, h1, h2, h3, h4, ?_⟩
  rcases h5 with h5 | ⟨g, o, h5, h6⟩
  · exact .inl h5
  · exact .inr ⟨g, o, h5, h6.call hb⟩
theorem PS.of_sms {w : World} {B : Nat} {v : Value} {L : List (List Nat)} (h : Sms w B v L) (hl : L.length ≤ 1000000) : PS w v L := by
  by_cases h0 : L = []
  · subst h0
    obtain ⟨a, c, rfl, hc⟩ := own_shape h.1
    exact ⟨a, c, rfl, hc, hl, h.2, .inl rfl⟩
  · obtain ⟨g, c, rfl, hc⟩ := own_some h.1 (List.length_pos_iff.2 h0)
    exact ⟨_, c, rfl, hc, hl, h.2, .inr ⟨g, 0, rfl, SS.of_own h.1 h.2⟩⟩
theorem SS.less {w : World} {a : Addr} {L : List (List Nat)} (h : SS w a L) : SS w a L.dropLast := by
  refine ⟨h.one, fun i s hs => h.at_ i s ?_⟩
  rw [List.getElem?_dropLast] at hs
  split at hs
  · exact hs
  · cases hs
theorem results_tmp_row {P : Program} {fn : Func} {p u : Tmp} {ty : TypeId} (h : fn.results = #[.tmp u, .cell p ty]) (tmps : Array Value) (w : World) (g : Nat) (t : TypeId) (cs : Array Value) (fr : Nat × Nat) (d : TypeDesc)
    (hp : tmps.getD p undef = .pointer (some ⟨g, 0, none⟩)) (hg : w.heap[g]? = some (.cells cs t fr))
    (hu : P.underlying ty = some d) (hd : (match d with | .struct _ | .array _ _ => true | _ => false) = true) (hi : (P.info? ty).map (·.size) = some cs.size) :
    (results fn tmps).run P w = .ok (.tuple #[tmps.getD u undef, .agg cs]) w := by
  have hp' : tmps[p]?.getD undef = .pointer (some ⟨g, 0, none⟩) := by simpa using hp
  simp only [results, h]
  simp [Sem.run_bind, Result.andThen, hp', asAddr, run_loadVar_row w g t ty cs fr d hg hu hd hi]
set_option maxRecDepth 100000 in
set_option maxHeartbeats 8000000 in
theorem cut_any (g o n c : Nat) (L : List (List Nat)) (y : List Nat) (w : World) (hn1 : 1 ≤ n) (hn : n ≤ 1000000) (hc : n ≤ c) (hS : SS w ⟨g, o, none⟩ L) (hy : L[n - 1]? = some y) :
    Calls Tryd.prog 84 #[.slice (some ⟨g, o, none⟩) n c] w fun e w' => e = .returned (.tuple #[.slice (some ⟨g, o, none⟩) (n - 1) c, .agg (bv y).toArray]) ∧ Below w.heap.size w w' := by
  have hz := zero27
  generalize hZ : (bv (List.replicate 32 0)).toArray = Z at hz
  have HZE := hide hZ
  have HZS : Hid (Z.size = 32) := hide (by rw [← hZ, List.size_toArray, bv_len, List.length_replicate])
  have b1 : Below w.heap.size w (w.alloc (.cells Z 43)) := (Below.refl _ _).alloc (Nat.le_refl _) _
  have HR1 : Hid (RowAt (w.alloc (.cells Z 43)) w.heap.size 43 (bv (List.replicate 32 0))) := hide (hZ ▸ RowAt.new w 43 (bv (List.replicate 32 0)))
  have HB1 := hide b1
  obtain ⟨y1, y8, yr⟩ := hS.at_ _ y hy
  obtain ⟨M, hM⟩ : ∃ M, n - 1 = M := ⟨_, rfl⟩
  rw [hM] at yr ⊢
  have w2 : IntKind.i64.wrap ((n : Int) - 1) = (M : Int) := by unfold IntKind.wrap; simp [IntKind.bits, IntKind.signed]; omega
  have q2 : (M : Int) < (n : Int) := by omega
  have q4 : M < n := by omega
  have q5 : (M : Int) ≤ (c : Int) := by omega
  have q6 : M ≤ c := by omega
  obtain ⟨Y, hY⟩ : ∃ Y, bv y = Y := ⟨_, rfl⟩
  have hiY : (Tryd.prog.info? 43).map (·.size) = some Y.length := hY ▸ size43 y1
  rw [hY] at yr ⊢
  have HLY : Hid (∀ w', w' = (w.alloc (.cells Z 43)).drew → (loadVar 43 ⟨g, o + M * 32, none⟩).run Tryd.prog w' = .ok (.agg Y.toArray) w') := hide (fun w' e => by
    subst e
    exact run_loadVar_mid _ g (o + M * 32) 43 Y _ ((World.rangeAt_drew _ _ _ _).2 (World.rangeAt_alloc yr (.cells Z 43))) Tryd.underlying43 rfl hiY)
  have HYS : Hid (Y.toArray.size = 32) := hide (by rw [← hY, List.size_toArray, bv_len, y1])
  have HYO : Hid (Y.toArray.all (·.oneCell') = true) := hide (hY ▸ one_bv _)
  obtain ⟨YA, hYA⟩ : ∃ A, Y.toArray = A := ⟨_, rfl⟩
  rw [hYA] at HLY HYS HYO ⊢
  clear hYA hY hiY yr y8 y1 hS hy b1 hZ hn1 hM
  go_enter Tryd.func84, Tryd.ntmps84
  go_wp2_with fail
  generalize w.alloc (.cells Z 43) = w1 at *
  refine wp_region_tail 8 (by kernel_rfl) (by kernel_rfl) ?_
  simp only [List.take_succ_cons, List.take_zero, List.drop_succ_cons, List.drop_zero]
  repeat (first
    | (refine wpQuiet_load rfl 43 _ rfl ⟨g, o + M * 32, none⟩ rfl _ (unhide HLY) ?_; simp only [Act.put, List.setIfInBounds_toArray, List.set_cons_succ, List.set_cons_zero])
    | go_big_quiet_step (fail))
  refine wpQuiet_nil ?_
  have HE2 := hide ((unhide HR1).drew.arr (unhide HZE))
  go_wp2_with (refine wpList_store_row rfl 43 _ _ rfl w.heap.size YA rfl rfl 43 Z (unhide HE2) (by rw [z27, unhide HYS]) (by rw [unhide HYS, unhide HZS]) (unhide HYO) ?_)
  refine bodyPost_ret (results_tmp_row Tryd.results84 _ _ w.heap.size 43 YA (0, 0) _ rfl (setRow_heap _ _ _ _ _ _ (unhide HE2)) Tryd.underlying43 rfl (by rw [z27, unhide HYS])) rfl ⟨rfl, ?_⟩
  exact Below.trans (unhide HB1).drew ⟨rfl, rfl, rfl, by simp [World.setRow], fun k hk => setRow_other _ _ _ _ (by omega)⟩
def leadL (s : List Nat) (i n : Nat) (P : List (List Nat)) : List Nat × Bool :=
  if h : 2 ≤ n then
    match P.getLast? with
    | none => (List.replicate 32 0, false)
    | some y => if i < half n then (knotL (leadL s i (half n) P.dropLast).1 y, (leadL s i (half n) P.dropLast).2)
      else (knotL y (leadL s (i - half n) (n - half n) P.dropLast).1, (leadL s (i - half n) (n - half n) P.dropLast).2)
  else (s, P.isEmpty)
termination_by n
decreasing_by
  all_goals (have h1 := half_lt h; have h2 := half_pos n; omega)
theorem leadL_one {s : List Nat} {i n : Nat} {P : List (List Nat)} (h : ¬ 2 ≤ n) : leadL s i n P = (s, P.isEmpty) := by rw [leadL, dif_neg h]
theorem leadL_none {s : List Nat} {i n : Nat} (h : 2 ≤ n) : leadL s i n [] = (List.replicate 32 0, false) := by rw [leadL, dif_pos h]; rfl
theorem leadL_low {s : List Nat} {i n : Nat} {P : List (List Nat)} {y : List Nat} (h : 2 ≤ n) (hy : P.getLast? = some y) (hi : i < half n) : leadL s i n P = (knotL (leadL s i (half n) P.dropLast).1 y, (leadL s i (half n) P.dropLast).2) := by
  rw [leadL, dif_pos h, hy]; simp only []; rw [if_pos hi]
theorem leadL_high {s : List Nat} {i n : Nat} {P : List (List Nat)} {y : List Nat} (h : 2 ≤ n) (hy : P.getLast? = some y) (hi : ¬ i < half n) : leadL s i n P = (knotL y (leadL s (i - half n) (n - half n) P.dropLast).1, (leadL s (i - half n) (n - half n) P.dropLast).2) := by
  rw [leadL, dif_pos h, hy]; simp only []; rw [if_neg hi]
theorem knotL_8 (a b : List Nat) : U8 (knotL a b) := sumL_8 _ _
theorem leadL_ok (s : List Nat) (hs : s.length = 32) (h8 : U8 s) : ∀ (n i : Nat) (P : List (List Nat)), (leadL s i n P).1.length = 32 ∧ U8 (leadL s i n P).1 := by
  intro n i P
  by_cases h2 : 2 ≤ n
  · cases hP : P.getLast? with
    | none =>
      obtain rfl := List.getLast?_eq_none_iff.1 hP
      rw [leadL_none h2]
      exact ⟨List.length_replicate, fun x hx => by rw [List.eq_of_mem_replicate hx]; decide⟩
    | some y =>
      by_cases hi : i < half n
      · rw [leadL_low h2 hP hi]; exact ⟨knotL_len _ _, knotL_8 _ _⟩
      · rw [leadL_high h2 hP hi]; exact ⟨knotL_len _ _, knotL_8 _ _⟩
  · rw [leadL_one h2]; exact ⟨hs, h8⟩
end Go.Proofs.YtonkgiiacholeaaDoor

namespace Go.Proofs.YtonkgiiacholeaaDoor
set_option linter.unusedVariables false
set_option linter.unusedSimpArgs false
open Go.ChangeShapes Go.WideShapes Go.ChangeAt Go.RowKit Go.Joins

set_option maxRecDepth 100000 in
set_option maxHeartbeats 8000000 in
theorem lead_one (i : Nat) (s : List Nat) (P : List (List Nat)) (v : Value) (w : World) (hs : s.length = 32) (hP : PS w v P) :
    Calls Tryd.prog 62 #[.agg (bv s).toArray, .int .i64 (i : Int), .int .i64 1, v] w fun e w' => e = .returned (.tuple #[.agg (bv s).toArray, .bool P.isEmpty]) ∧ Below w.heap.size w w' := by
  have hz := zero27
  generalize hZ : (bv (List.replicate 32 0)).toArray = Z at hz
  have HZE := hide hZ
  have HZS : Hid (Z.size = 32) := hide (by rw [← hZ, List.size_toArray, bv_len, List.length_replicate])
  obtain ⟨SA, hSA⟩ : ∃ A, (bv s).toArray = A := ⟨_, rfl⟩
  rw [hSA]
  have HSA := hide hSA
  have HSS : Hid (SA.size = 32) := hide (by rw [← hSA, List.size_toArray, bv_len, hs])
  have HSO : Hid (SA.all (·.oneCell') = true) := hide (hSA ▸ one_bv _)
  have HZO : Hid (Z.all (·.oneCell') = true) := hide (hZ ▸ one_bv _)
  have b0 : Below w.heap.size w (w.alloc (.cells SA 43)) := (Below.refl _ _).alloc (Nat.le_refl _) _
  have r0 : RowAt (w.alloc (.cells SA 43)) w.heap.size 43 (bv s) := hSA ▸ RowAt.new w 43 (bv s)
  have b1 : Below w.heap.size w ((w.alloc (.cells SA 43)).alloc (.cells Z 43)) := b0.alloc b0.size _
  have bx : Below (w.alloc (.cells SA 43)).heap.size (w.alloc (.cells SA 43)) ((w.alloc (.cells SA 43)).alloc (.cells Z 43)) := (Below.refl _ _).alloc (Nat.le_refl _) _
  have HR4 := hide (r0.below bx r0.lt)
  have HR8 : Hid (RowAt ((w.alloc (.cells SA 43)).alloc (.cells Z 43)) (w.heap.size + 1) 43 (bv (List.replicate 32 0))) := hide (by
    have := RowAt.new (w.alloc (.cells SA 43)) 43 (bv (List.replicate 32 0))
    rw [hZ, size_alloc] at this
    exact this)
  have HB1 := hide b1
  obtain ⟨a, c, rfl, hc, hn, hl, _⟩ := hP
  have he : P.isEmpty = ((P.length : Int) == 0) := by cases P <;> simp; omega
  rw [he]
  have pn : (P.length : Int) ≤ 1000000 := by omega
  obtain ⟨pl, hpl⟩ : ∃ n, P.length = n := ⟨_, rfl⟩
  rw [hpl] at pn hc ⊢
  clear b0 r0 b1 bx hZ hSA hs hl hn he hpl
  go_enter Tryd.func62, Tryd.ntmps62
  have HE4 := hide ((unhide HR4).arr (unhide HSA))
  have HE8 := hide ((unhide HR8).arr (unhide HZE))
  go_wp2_with (first
    | (refine wpList_load_row rfl 43 _ rfl w.heap.size rfl 43 SA (0, 0) _ (unhide HE4) Tryd.underlying43 rfl (by rw [z27, unhide HSS]) ?_)
    | (refine wpList_store_row rfl 43 _ _ rfl (w.heap.size + 1) SA rfl rfl 43 Z (unhide HE8) (by rw [z27, unhide HSS]) (by rw [unhide HSS, unhide HZS]) (unhide HSO) ?_))
  refine bodyPost_ret (results_row_tmp Tryd.results62 _ _ (w.heap.size + 1) 43 SA (0, 0) _ rfl (setRow_heap _ _ _ _ _ _ (unhide HE8)) Tryd.underlying43 rfl (by rw [z27, unhide HSS])) rfl ⟨rfl, ?_⟩
  exact Below.trans (unhide HB1) ⟨rfl, rfl, rfl, by simp [World.setRow], fun k hk => setRow_other _ _ _ _ (by omega)⟩
set_option maxRecDepth 100000 in
set_option maxHeartbeats 8000000 in
theorem lead_none (i n : Nat) (s : List Nat) (v : Value) (w : World) (hs : s.length = 32) (h2 : 2 ≤ n) (hn : n ≤ 1099511627776) (hP : PS w v []) :
    Calls Tryd.prog 62 #[.agg (bv s).toArray, .int .i64 (i : Int), .int .i64 (n : Int), v] w fun e w' => e = .returned (.tuple #[.agg (bv (List.replicate 32 0)).toArray, .bool false]) ∧ Below w.heap.size w w' := by
  have hz := zero27
  generalize hZ : (bv (List.replicate 32 0)).toArray = Z at hz
  have HZE := hide hZ
  have HZS : Hid (Z.size = 32) := hide (by rw [← hZ, List.size_toArray, bv_len, List.length_replicate])
  obtain ⟨SA, hSA⟩ : ∃ A, (bv s).toArray = A := ⟨_, rfl⟩
  rw [hSA]
  have HSA := hide hSA
  have HSS : Hid (SA.size = 32) := hide (by rw [← hSA, List.size_toArray, bv_len, hs])
  have HSO : Hid (SA.all (·.oneCell') = true) := hide (hSA ▸ one_bv _)
  have HZO : Hid (Z.all (·.oneCell') = true) := hide (hZ ▸ one_bv _)
  have b0 : Below w.heap.size w (w.alloc (.cells SA 43)) := (Below.refl _ _).alloc (Nat.le_refl _) _
  have r0 : RowAt (w.alloc (.cells SA 43)) w.heap.size 43 (bv s) := hSA ▸ RowAt.new w 43 (bv s)
  have b1 : Below w.heap.size w ((w.alloc (.cells SA 43)).alloc (.cells Z 43)) := b0.alloc b0.size _
  have bx : Below (w.alloc (.cells SA 43)).heap.size (w.alloc (.cells SA 43)) ((w.alloc (.cells SA 43)).alloc (.cells Z 43)) := (Below.refl _ _).alloc (Nat.le_refl _) _
  have HR4 := hide (r0.below bx r0.lt)
  have HR8 : Hid (RowAt ((w.alloc (.cells SA 43)).alloc (.cells Z 43)) (w.heap.size + 1) 43 (bv (List.replicate 32 0))) := hide (by
    have := RowAt.new (w.alloc (.cells SA 43)) 43 (bv (List.replicate 32 0))
    rw [hZ, size_alloc] at this
    exact this)
  have HB1 := hide b1
  obtain ⟨a, c, rfl, hc, _, _, _⟩ := hP
  have n1 : ((n : Int) == 1) = false := beq_eq_false_iff_ne.2 (by omega)
  rw [List.length_nil]
  clear b0 r0 b1 bx hZ hSA hs h2 hn
  go_enter Tryd.func62, Tryd.ntmps62
  have HE8 := hide ((unhide HR8).arr (unhide HZE))
  go_wp2_with (refine wpList_store_row rfl 43 _ _ rfl (w.heap.size + 1) Z rfl rfl 43 Z (unhide HE8) (by rw [z27, unhide HZS]) rfl (unhide HZO) ?_)
  refine bodyPost_ret (results_row_tmp Tryd.results62 _ _ (w.heap.size + 1) 43 Z (0, 0) _ rfl (setRow_heap _ _ _ _ _ _ (unhide HE8)) Tryd.underlying43 rfl (by rw [z27, unhide HZS])) rfl ⟨rfl, ?_⟩
  exact Below.trans (unhide HB1) ⟨rfl, rfl, rfl, by simp [World.setRow], fun k hk => setRow_other _ _ _ _ (by omega)⟩
theorem PS.drop {w : World} {v : Value} {P : List (List Nat)} (h : PS w v P) {a : Option Addr} {n c : Nat} (hv : v = .slice a n c) : PS w (.slice a (n - 1) c) P.dropLast := by
  obtain ⟨a', c', h1, h2, h3, h4, h5⟩ := h
  rw [h1] at hv
  obtain ⟨rfl, rfl, rfl⟩ : a' = a ∧ P.length = n ∧ c' = c := by simpa using hv
  refine ⟨a', c', by rw [List.length_dropLast], by rw [List.length_dropLast]; omega, by rw [List.length_dropLast]; omega, fun s hs => h4 s (List.mem_of_mem_take (by rw [← List.dropLast_eq_take]; exact hs)), ?_⟩
  rcases h5 with h5 | ⟨g, o, h5, h6⟩
  · subst h5; exact .inl rfl
  · exact .inr ⟨g, o, h5, h6.less⟩
set_option maxRecDepth 100000 in
set_option maxHeartbeats 8000000 in
theorem lead_any (s : List Nat) : ∀ (n i : Nat) (P : List (List Nat)) (v : Value) (w : World), Tabs w → 1 ≤ n → n ≤ 1099511627776 → i < n → s.length = 32 → U8 s → PS w v P →
    Calls Tryd.prog 62 #[.agg (bv s).toArray, .int .i64 (i : Int), .int .i64 (n : Int), v] w fun e w' => e = .returned (.tuple #[.agg (bv (leadL s i n P).1).toArray, .bool (leadL s i n P).2]) ∧ Below w.heap.size w w' := by
  intro n
  induction n using Nat.strongRecOn with
  | _ n ih =>
  intro i P v w hT h1 hn hi hs h8 hP
  by_cases h2 : 2 ≤ n
  rotate_left
  · obtain rfl : n = 1 := by omega
    rw [leadL_one h2]
    exact lead_one i s P v w hs hP
  cases hlast : P.getLast? with
  | none =>
    obtain rfl := List.getLast?_eq_none_iff.1 hlast
    rw [leadL_none h2]
    exact lead_none i n s v w hs h2 hn hP
  | some y =>
  obtain ⟨a, c, rfl, hc, hp1, hp2, hS⟩ := id hP
  have hne : P ≠ [] := fun e => by subst e; cases hlast
  rcases hS with hS | ⟨g, o, rfl, hS⟩
  · exact absurd hS hne
  have hy : P[P.length - 1]? = some y := by rw [← List.getLast?_eq_getElem?]; exact hlast
  have y1 : y.length = 32 := (hp2 y (List.mem_of_getElem? hy)).1
  have y8 : U8 y := (hp2 y (List.mem_of_getElem? hy)).2
  have HCT := hide (p := ∀ w', Below w.heap.size w w' → _) (fun w' hw' => cut_any g o P.length c P y w' (List.length_pos_iff.2 hne) hp1 hc (hS.call hw') hy)
  have hp0 := List.length_pos_iff.2 hne
  have hh := half_lt h2
  have hhp := half_pos n
  have HHF := hide (fun w => half_any n w h2 hn)
  have n1 : ((n : Int) == 1) = false := beq_eq_false_iff_ne.2 (by omega)
  have hz := zero27
  generalize hZ : (bv (List.replicate 32 0)).toArray = Z at hz
  have HZE := hide hZ
  have HZS : Hid (Z.size = 32) := hide (by rw [← hZ, List.size_toArray, bv_len, List.length_replicate])
  obtain ⟨SA, hSA⟩ : ∃ A, (bv s).toArray = A := ⟨_, rfl⟩
  rw [hSA]
  have HSA := hide hSA
  have HSS : Hid (SA.size = 32) := hide (by rw [← hSA, List.size_toArray, bv_len, hs])
  have HSO : Hid (SA.all (·.oneCell') = true) := hide (hSA ▸ one_bv _)
  have HZO : Hid (Z.all (·.oneCell') = true) := hide (hZ ▸ one_bv _)
  have b0 : Below w.heap.size w (w.alloc (.cells SA 43)) := (Below.refl _ _).alloc (Nat.le_refl _) _
  have r0 : RowAt (w.alloc (.cells SA 43)) w.heap.size 43 (bv s) := hSA ▸ RowAt.new w 43 (bv s)
  have b1 : Below w.heap.size w ((w.alloc (.cells SA 43)).alloc (.cells Z 43)) := b0.alloc b0.size _
  have bx : Below (w.alloc (.cells SA 43)).heap.size (w.alloc (.cells SA 43)) ((w.alloc (.cells SA 43)).alloc (.cells Z 43)) := (Below.refl _ _).alloc (Nat.le_refl _) _
  have HR4 := hide (r0.below bx r0.lt)
  have HR8 : Hid (RowAt ((w.alloc (.cells SA 43)).alloc (.cells Z 43)) (w.heap.size + 1) 43 (bv (List.replicate 32 0))) := hide (by
    have := RowAt.new (w.alloc (.cells SA 43)) 43 (bv (List.replicate 32 0))
    rw [hZ, size_alloc] at this
    exact this)
  have HB1 := hide b1
  obtain ⟨pl, hpl⟩ : ∃ n, P.length = n := ⟨_, rfl⟩
  rw [hpl] at hp0
  by_cases hik : i < half n
  · have HIH := hide (p := ∀ w', Below w.heap.size w w' → _) (fun w' hw' => (fun hp' => ih (half n) hh i P.dropLast _ w' (hT.below hw') hhp (by omega) hik hs h8 hp') ((PS.drop hP rfl).call hw'))
    rw [leadL_low h2 hlast hik]
    have hok := leadL_ok s hs h8 (half n) i P.dropLast
    obtain ⟨LD, hLD⟩ : ∃ L, (leadL s i (half n) P.dropLast).1 = L := ⟨_, rfl⟩
    obtain ⟨bb, hbb⟩ : ∃ b, (leadL s i (half n) P.dropLast).2 = b := ⟨_, rfl⟩
    rw [hLD] at hok
    rw [hLD, hbb] at HIH ⊢
    obtain ⟨l1, l8⟩ := hok
    have HKN := hide (p := ∀ w', Below w.heap.size w w' → _) (fun w' hw' => knot_any LD y w' (hT.below hw') l1 y1 l8 y8)
    obtain ⟨LA, hLA⟩ : ∃ A, (bv LD).toArray = A := ⟨_, rfl⟩
    obtain ⟨YA, hYA⟩ : ∃ A, (bv y).toArray = A := ⟨_, rfl⟩
    obtain ⟨KD, hKD⟩ : ∃ K, knotL LD y = K := ⟨_, rfl⟩
    rw [hKD] at HKN ⊢
    have HKL : Hid (KD.length = 32) := hide (by rw [← hKD, knotL_len])
    obtain ⟨KA, hKA⟩ : ∃ A, (bv KD).toArray = A := ⟨_, rfl⟩
    rw [hLA, hYA, hKA] at HKN
    rw [hLA, hSA] at HIH
    rw [hYA] at HCT
    rw [hKA]
    have HLS : Hid (LA.size = 32) := hide (by rw [← hLA, List.size_toArray, bv_len, l1])
    have HLO : Hid (LA.all (·.oneCell') = true) := hide (hLA ▸ one_bv _)
    have HYS : Hid (YA.size = 32) := hide (by rw [← hYA, List.size_toArray, bv_len, y1])
    have HYO : Hid (YA.all (·.oneCell') = true) := hide (hYA ▸ one_bv _)
    have HKS : Hid (KA.size = 32) := hide (by rw [← hKA, List.size_toArray, bv_len, unhide HKL])
    have HKO : Hid (KA.all (·.oneCell') = true) := hide (hKA ▸ one_bv _)
    have HLA := hide hLA
    have HYA := hide hYA
    obtain ⟨k, hk⟩ : ∃ k, half n = k := ⟨_, rfl⟩
    rw [hk] at HHF HIH hh hhp hik
    have nI : (n : Int) ≤ 1099511627776 := by omega
    have kI : (k : Int) < (n : Int) := by omega
    have k1 : (1 : Int) ≤ (k : Int) := by omega
    have ik : (i : Int) < (k : Int) := by omega
    have pn : ((pl : Int) == 0) = false := beq_eq_false_iff_ne.2 (by omega)
    rw [hpl] at HCT HIH ⊢
    clear hp0 hne ih hT hP h8 hn hi h1 h2 hh hhp hik hk hLA hYA hKA hKD hLD hbb l1 l8 y1 y8 hlast hpl hp1 hp2 hc b0 r0 b1 bx hZ hSA hs hS hy
    go_enter Tryd.func62, Tryd.ntmps62
    go_wp2_with fail
    generalize (w.alloc (.cells SA 43)).alloc (.cells Z 43) = w1 at *
    refine Calls.mono (unhide HCT _ (unhide HB1)) ?_
    rintro e w2 ⟨rfl, b2⟩
    have HB2 := hide ((unhide HB1).trans (b2.mono (unhide HB1).size))
    have b2a := b2.alloc b2.size (.cells YA 43)
    have HB3 := hide ((unhide HB2).alloc (unhide HB2).size (.cells YA 43))
    have HR43 := hide ((unhide HR4).below b2a (unhide HR4).lt)
    have HR83 := hide ((unhide HR8).below b2a (unhide HR8).lt)
    have HR11 : Hid (RowAt (w2.alloc (.cells YA 43)) w2.heap.size 43 (bv y)) := hide (unhide HYA ▸ RowAt.new w2 43 (bv y))
    clear b2 b2a HCT
    go_wp2_with (refine wpList_store_new rfl 43 _ _ rfl YA rfl rfl (by rw [z27, unhide HYS]) (by rw [unhide HYS, unhide HZS]) (unhide HYO) ?_)
    generalize w2.alloc (.cells YA 43) = w3 at *
    obtain ⟨g11, hg11⟩ : ∃ g, w2.heap.size = g := ⟨_, rfl⟩
    rw [hg11] at HR11 ⊢
    refine Calls.mono (unhide HHF _) ?_
    rintro e wx ⟨rfl, rfl⟩
    have HE4 := hide ((unhide HR43).arr (unhide HSA))
    go_wp2_with (refine wpList_load_row rfl 43 _ rfl w.heap.size rfl 43 SA (0, 0) _ (unhide HE4) Tryd.underlying43 rfl (by rw [z27, unhide HSS]) ?_)
    refine Calls.mono (unhide HIH _ (unhide HB3)) ?_
    rintro e w4 ⟨rfl, b4⟩
    have HB4 := hide ((unhide HB3).trans (b4.mono (unhide HB3).size))
    have b4a := b4.alloc b4.size (.cells LA 43)
    have HB5 := hide ((unhide HB4).alloc (unhide HB4).size (.cells LA 43))
    have HR85 := hide ((unhide HR83).below b4a (unhide HR83).lt)
    have HR115 := hide ((unhide HR11).below b4a (unhide HR11).lt)
    have HR13 : Hid (RowAt (w4.alloc (.cells LA 43)) w4.heap.size 43 (bv LD)) := hide (unhide HLA ▸ RowAt.new w4 43 (bv LD))
    clear b4 b4a HIH HE4
    have HE13 := hide ((unhide HR13).arr (unhide HLA))
    have HE11 := hide ((unhide HR115).arr (unhide HYA))
    go_wp2_with (first
      | (refine wpList_store_new rfl 43 _ _ rfl LA rfl rfl (by rw [z27, unhide HLS]) (by rw [unhide HLS, unhide HZS]) (unhide HLO) ?_)
      | (refine wpList_load_row rfl 43 _ rfl w4.heap.size rfl 43 LA (0, 0) _ (unhide HE13) Tryd.underlying43 rfl (by rw [z27, unhide HLS]) ?_)
      | (refine wpList_load_row rfl 43 _ rfl g11 rfl 43 YA (0, 0) _ (unhide HE11) Tryd.underlying43 rfl (by rw [z27, unhide HYS]) ?_))
    refine Calls.mono (unhide HKN _ (unhide HB5)) ?_
    rintro e w6 ⟨rfl, b6⟩
    have HB6 := hide ((unhide HB5).trans (b6.mono (unhide HB5).size))
    have HE8 := hide (((unhide HR85).below b6 (unhide HR85).lt).arr (unhide HZE))
    clear b6 HKN
    go_wp2_with (refine wpList_store_row rfl 43 _ _ rfl (w.heap.size + 1) KA rfl rfl 43 Z (unhide HE8) (by rw [z27, unhide HKS]) (by rw [unhide HKS, unhide HZS]) (unhide HKO) ?_)
    refine bodyPost_ret (results_row_tmp Tryd.results62 _ _ (w.heap.size + 1) 43 KA (0, 0) _ rfl (setRow_heap _ _ _ _ _ _ (unhide HE8)) Tryd.underlying43 rfl (by rw [z27, unhide HKS])) rfl ⟨rfl, ?_⟩
    exact Below.trans (unhide HB6) ⟨rfl, rfl, rfl, by simp [World.setRow], fun k hk => setRow_other _ _ _ _ (by omega)⟩
  · have HIH := hide (p := ∀ w', Below w.heap.size w w' → _) (fun w' hw' => (fun hp' => ih (n - half n) (by omega) (i - half n) P.dropLast _ w' (hT.below hw') (by omega) (by omega) (by omega) hs h8 hp') ((PS.drop hP rfl).call hw'))
    rw [leadL_high h2 hlast hik]
    have hok := leadL_ok s hs h8 (n - half n) (i - half n) P.dropLast
    obtain ⟨LD, hLD⟩ : ∃ L, (leadL s (i - half n) (n - half n) P.dropLast).1 = L := ⟨_, rfl⟩
    obtain ⟨bb, hbb⟩ : ∃ b, (leadL s (i - half n) (n - half n) P.dropLast).2 = b := ⟨_, rfl⟩
    rw [hLD] at hok
    rw [hLD, hbb] at HIH ⊢
    obtain ⟨l1, l8⟩ := hok
    have HKN := hide (p := ∀ w', Below w.heap.size w w' → _) (fun w' hw' => knot_any y LD w' (hT.below hw') y1 l1 y8 l8)
    obtain ⟨LA, hLA⟩ : ∃ A, (bv LD).toArray = A := ⟨_, rfl⟩
    obtain ⟨YA, hYA⟩ : ∃ A, (bv y).toArray = A := ⟨_, rfl⟩
    obtain ⟨KD, hKD⟩ : ∃ K, knotL y LD = K := ⟨_, rfl⟩
    rw [hKD] at HKN ⊢
    have HKL : Hid (KD.length = 32) := hide (by rw [← hKD, knotL_len])
    obtain ⟨KA, hKA⟩ : ∃ A, (bv KD).toArray = A := ⟨_, rfl⟩
    rw [hLA, hYA, hKA] at HKN
    rw [hLA, hSA] at HIH
    rw [hYA] at HCT
    rw [hKA]
    have HLS : Hid (LA.size = 32) := hide (by rw [← hLA, List.size_toArray, bv_len, l1])
    have HLO : Hid (LA.all (·.oneCell') = true) := hide (hLA ▸ one_bv _)
    have HYS : Hid (YA.size = 32) := hide (by rw [← hYA, List.size_toArray, bv_len, y1])
    have HYO : Hid (YA.all (·.oneCell') = true) := hide (hYA ▸ one_bv _)
    have HKS : Hid (KA.size = 32) := hide (by rw [← hKA, List.size_toArray, bv_len, unhide HKL])
    have HKO : Hid (KA.all (·.oneCell') = true) := hide (hKA ▸ one_bv _)
    have HLA := hide hLA
    have HYA := hide hYA
    obtain ⟨k, hk⟩ : ∃ k, half n = k := ⟨_, rfl⟩
    rw [hk] at HHF HIH hh hhp hik
    have e2 : ((n - k : Nat) : Int) = (n : Int) - (k : Int) := by omega
    have e3 : ((i - k : Nat) : Int) = (i : Int) - (k : Int) := by omega
    rw [e2, e3] at HIH
    have nI : (n : Int) ≤ 1099511627776 := by omega
    have kI : (k : Int) < (n : Int) := by omega
    have k1 : (1 : Int) ≤ (k : Int) := by omega
    have ik : ¬ (i : Int) < (k : Int) := by omega
    have iI : (i : Int) < (n : Int) := by omega
    have pn : ((pl : Int) == 0) = false := beq_eq_false_iff_ne.2 (by omega)
    rw [hpl] at HCT HIH ⊢
    clear hp0 hne ih hT hP h8 hn hi h1 h2 hh hhp hik hk hLA hYA hKA hKD hLD hbb l1 l8 y1 y8 hlast hpl hp1 hp2 hc b0 r0 b1 bx hZ hSA hs e2 e3 hS hy
    go_enter Tryd.func62, Tryd.ntmps62
    go_wp2_with fail
    generalize (w.alloc (.cells SA 43)).alloc (.cells Z 43) = w1 at *
    refine Calls.mono (unhide HCT _ (unhide HB1)) ?_
    rintro e w2 ⟨rfl, b2⟩
    have HB2 := hide ((unhide HB1).trans (b2.mono (unhide HB1).size))
    have b2a := b2.alloc b2.size (.cells YA 43)
    have HB3 := hide ((unhide HB2).alloc (unhide HB2).size (.cells YA 43))
    have HR43 := hide ((unhide HR4).below b2a (unhide HR4).lt)
    have HR83 := hide ((unhide HR8).below b2a (unhide HR8).lt)
    have HR11 : Hid (RowAt (w2.alloc (.cells YA 43)) w2.heap.size 43 (bv y)) := hide (unhide HYA ▸ RowAt.new w2 43 (bv y))
    clear b2 b2a HCT
    go_wp2_with (refine wpList_store_new rfl 43 _ _ rfl YA rfl rfl (by rw [z27, unhide HYS]) (by rw [unhide HYS, unhide HZS]) (unhide HYO) ?_)
    generalize w2.alloc (.cells YA 43) = w3 at *
    obtain ⟨g11, hg11⟩ : ∃ g, w2.heap.size = g := ⟨_, rfl⟩
    rw [hg11] at HR11 ⊢
    refine Calls.mono (unhide HHF _) ?_
    rintro e wx ⟨rfl, rfl⟩
    have HE4 := hide ((unhide HR43).arr (unhide HSA))
    go_wp2_with (refine wpList_load_row rfl 43 _ rfl w.heap.size rfl 43 SA (0, 0) _ (unhide HE4) Tryd.underlying43 rfl (by rw [z27, unhide HSS]) ?_)
    refine Calls.mono (unhide HIH _ (unhide HB3)) ?_
    rintro e w4 ⟨rfl, b4⟩
    have HB4 := hide ((unhide HB3).trans (b4.mono (unhide HB3).size))
    have b4a := b4.alloc b4.size (.cells LA 43)
    have HB5 := hide ((unhide HB4).alloc (unhide HB4).size (.cells LA 43))
    have HR85 := hide ((unhide HR83).below b4a (unhide HR83).lt)
    have HR115 := hide ((unhide HR11).below b4a (unhide HR11).lt)
    have HR13 : Hid (RowAt (w4.alloc (.cells LA 43)) w4.heap.size 43 (bv LD)) := hide (unhide HLA ▸ RowAt.new w4 43 (bv LD))
    clear b4 b4a HIH HE4
    have HE13 := hide ((unhide HR13).arr (unhide HLA))
    have HE11 := hide ((unhide HR115).arr (unhide HYA))
    go_wp2_with (first
      | (refine wpList_store_new rfl 43 _ _ rfl LA rfl rfl (by rw [z27, unhide HLS]) (by rw [unhide HLS, unhide HZS]) (unhide HLO) ?_)
      | (refine wpList_load_row rfl 43 _ rfl w4.heap.size rfl 43 LA (0, 0) _ (unhide HE13) Tryd.underlying43 rfl (by rw [z27, unhide HLS]) ?_)
      | (refine wpList_load_row rfl 43 _ rfl g11 rfl 43 YA (0, 0) _ (unhide HE11) Tryd.underlying43 rfl (by rw [z27, unhide HYS]) ?_))
    refine Calls.mono (unhide HKN _ (unhide HB5)) ?_
    rintro e w6 ⟨rfl, b6⟩
    have HB6 := hide ((unhide HB5).trans (b6.mono (unhide HB5).size))
    have HE8 := hide (((unhide HR85).below b6 (unhide HR85).lt).arr (unhide HZE))
    clear b6 HKN
    go_wp2_with (refine wpList_store_row rfl 43 _ _ rfl (w.heap.size + 1) KA rfl rfl 43 Z (unhide HE8) (by rw [z27, unhide HKS]) (by rw [unhide HKS, unhide HZS]) (unhide HKO) ?_)
    refine bodyPost_ret (results_row_tmp Tryd.results62 _ _ (w.heap.size + 1) 43 KA (0, 0) _ rfl (setRow_heap _ _ _ _ _ _ (unhide HE8)) Tryd.underlying43 rfl (by rw [z27, unhide HKS])) rfl ⟨rfl, ?_⟩
    exact Below.trans (unhide HB6) ⟨rfl, rfl, rfl, by simp [World.setRow], fun k hk => setRow_other _ _ _ _ (by omega)⟩
end Go.Proofs.YtonkgiiacholeaaDoor

namespace Go.Proofs.YtonkgiiacholeaaDoor
set_option linter.unusedVariables false
set_option linter.unusedSimpArgs false
open Go.ChangeShapes Go.WideShapes Go.ChangeAt Go.RowKit Go.Joins

theorem items_two (d : Nat) (l m : List Nat) (w : World) : ∀ (is : List Nat), (∀ i ∈ is, i < l.length ∧ i < m.length) → (Op.eqItems (d + 1) 5 1 (bv l).toArray (bv m).toArray is).run Tryd.prog w = .ok (decide (∀ i ∈ is, l[i]? = m[i]?)) w
  | [], _ => by simp [Op.eqItems]
  | i :: is, h => by
    have hi := h i (by simp)
    have hpart : ∀ (l : List Nat) (hl : i < l.length), (part 5 (bv l).toArray (i * 1)).run Tryd.prog w = .ok (.int .u8 (Int.ofNat l[i])) w := by
      intro l hl
      have e : (bv l).toArray[i]? = some (.int .u8 (Int.ofNat l[i])) := by simp [bv, hl]
      simp [part, isAgg, run_underlying Tryd.underlying5]
      simp at e
      simp [e]
    have ih := items_two d l m w is (fun j hj => h j (by simp [hj]))
    simp only [Op.eqItems, Sem.run_bind, hpart l hi.1, hpart m hi.2, Result.andThen_ok, run_equalIn_int w d 5 .u8 .u8 _ _ Tryd.underlying5]
    have e1 : l[i]? = some l[i] := List.getElem?_eq_getElem hi.1
    have e2 : m[i]? = some m[i] := List.getElem?_eq_getElem hi.2
    by_cases hq : l[i] = m[i]
    · have : (Int.ofNat l[i] == Int.ofNat m[i]) = true := by rw [hq]; simp
      rw [this]
      simp only [Bool.not_true, Bool.false_eq_true, if_false]
      rw [ih]
      congr 1
      simp [e1, e2, hq]
    · have : (Int.ofNat l[i] == Int.ofNat m[i]) = false := beq_eq_false_iff_ne.2 (fun e => hq (Int.ofNat.inj e))
      rw [this]
      simp [e1, e2, hq]
set_option maxRecDepth 20000 in
theorem eq_sums (l m : List Nat) (hl : l.length = 32) (hm : m.length = 32) (w : World) : (Op.equalIn 10000 43 (.agg (bv l).toArray) (.agg (bv m).toArray)).run Tryd.prog w = .ok (decide (l = m)) w := by
  obtain ⟨i0, hi, _, _, _⟩ := info_parts info5
  rw [show 10000 = 9999 + 1 from rfl, run_equalIn_array w 9999 _ _ Tryd.underlying43 hi]
  rw [cells5, items_two 9998 l m w _ (fun i hi => by rw [hl, hm]; exact ⟨List.mem_range.1 hi, List.mem_range.1 hi⟩)]
  congr 1
  rw [decide_eq_decide]
  constructor
  · intro h
    apply List.ext_getElem?
    intro i
    by_cases hi : i < 32
    · exact h i (List.mem_range.2 hi)
    · rw [List.getElem?_eq_none (by omega), List.getElem?_eq_none (by omega)]
  · rintro rfl i _; rfl
theorem wpList_load_if {P : Program} {ops : Array Oper} {rest : List Oper} {o : Oper} {a : Act} {w : World} {Q : Exit → Act → World → Prop} (hgd : Region.wanted o (yielded ops a.tmps) = true) (ty : TypeId) (x : Operand) (ho : o.op = .load ty x)
    (g : Nat) (hx : a.eval x = .pointer (some ⟨g, 0, none⟩)) (t : TypeId) (cs : Array Value) (fr : Nat × Nat) (d : TypeDesc) (hg : w.heap[g]? = some (.cells cs t fr))
    (hu : P.underlying ty = some d) (hd : (match d with | .struct _ | .array _ _ => true | _ => false) = true) (hi : (P.info? ty).map (·.size) = some cs.size)
    (h : wpList P ops Q rest (a.put o.dst (.agg cs)) w) : wpList P ops Q (o :: rest) a w :=
  wpList_step fun K hK => by rw [if_pos hgd]; exact wp_load_row ty x ho g hx t cs fr d hg hu hd hi (hK _ _ h)
/-- what Proves answers -/
def provesE (d : List Nat) (i n : Nat) (P : List (List Nat)) (R : List Nat) : Int := if (leadL (leafL d) i n P).2 = true ∧ (leadL (leafL d) i n P).1 = R then 0 else 140
set_option maxRecDepth 100000 in
set_option maxHeartbeats 8000000 in
theorem proves_ok (v vp : Value) (d : List Nat) (i n : Nat) (P : List (List Nat)) (R : List Nat) (w : World) (hT : Tabs w) (hd : Byt w v d) (h8 : U8 d) (hdl : d.length ≤ 1000000) (hi : i < n) (hn : n ≤ 1099511627776) (hP : PS w vp P) (hR : R.length = 32) :
    Calls Tryd.prog 34 #[v, .int .i64 (i : Int), .int .i64 (n : Int), vp, .agg (bv R).toArray] w fun e w' => e = .returned (.int .i64 (provesE d i n P R)) ∧ Below w.heap.size w w' := by
  have hz := zero27
  generalize hZ : (bv (List.replicate 32 0)).toArray = Z at hz
  have HZS : Hid (Z.size = 32) := hide (by rw [← hZ, List.size_toArray, bv_len, List.length_replicate])
  have lf1 : (leafL d).length = 32 := sumL_len _ _
  have lf8 : U8 (leafL d) := sumL_8 _ _
  obtain ⟨l1, l8⟩ := leadL_ok (leafL d) lf1 lf8 n i P
  have hq := eq_sums (leadL (leafL d) i n P).1 R l1 hR
  have HLF := hide (p := ∀ w', Below w.heap.size w w' → _) (fun w' hw' => leaf_any v d w' (hT.below hw') (hd.call hw') h8 hdl)
  have HLD := hide (p := ∀ w', Below w.heap.size w w' → _) (fun w' hw' => lead_any (leafL d) n i P vp w' (hT.below hw') (by omega) hn hi lf1 lf8 (hP.call hw'))
  unfold provesE
  obtain ⟨LF, hLF⟩ : ∃ A, (bv (leafL d)).toArray = A := ⟨_, rfl⟩
  rw [hLF] at HLF HLD
  obtain ⟨LD, hLD⟩ : ∃ L, (leadL (leafL d) i n P).1 = L := ⟨_, rfl⟩
  obtain ⟨bb, hbb⟩ : ∃ b, (leadL (leafL d) i n P).2 = b := ⟨_, rfl⟩
  rw [hLD] at HLD l1 hq ⊢
  rw [hbb] at HLD ⊢
  obtain ⟨RA, hRA⟩ : ∃ A, (bv R).toArray = A := ⟨_, rfl⟩
  obtain ⟨LA, hLA⟩ : ∃ A, (bv LD).toArray = A := ⟨_, rfl⟩
  rw [hLA] at HLD
  rw [hLA, hRA] at hq
  have HRA := hide hRA
  have HLA := hide hLA
  have HRS : Hid (RA.size = 32) := hide (by rw [← hRA, List.size_toArray, bv_len, hR])
  have HLS : Hid (LA.size = 32) := hide (by rw [← hLA, List.size_toArray, bv_len, l1])
  have HLO : Hid (LA.all (·.oneCell') = true) := hide (hLA ▸ one_bv _)
  have HB1 : Hid (Below w.heap.size w (w.alloc (.cells RA 43))) := hide ((Below.refl _ _).alloc (Nat.le_refl _) _)
  have HR9 : Hid (RowAt (w.alloc (.cells RA 43)) w.heap.size 43 (bv R)) := hide (hRA ▸ RowAt.new w 43 (bv R))
  rw [hRA]
  have i0 : ¬ (i : Int) < 0 := by omega
  have i1 : ¬ (n : Int) ≤ (i : Int) := by omega
  have n1 : ¬ (1099511627776 : Int) < (n : Int) := by omega
  have HV := byt_shape hd
  obtain ⟨va, vn, vc, rfl⟩ := HV
  obtain ⟨pa, pc, rfl, _⟩ := id hP
  obtain ⟨r, hr⟩ : ∃ r, decide (LD = R) = r := ⟨_, rfl⟩
  have HRR : Hid ((if bb = true ∧ LD = R then (0 : Int) else 140) = if (bb && r) = true then 0 else 140) := hide (by
    rw [← hr]
    cases bb <;> simp)
  rw [unhide HRR]
  rw [hr] at hq
  clear hT hd h8 hdl hi hn hP hR hZ lf1 lf8 l1 l8 hLF hLD hbb hRA hLA hr HRR
  go_enter Tryd.func34, Tryd.ntmps34
  go_wp2_with fail
  generalize w.alloc (.cells RA 43) = w1 at *
  refine Calls.mono (unhide HLF _ (unhide HB1)) ?_
  rintro e w2 ⟨rfl, b2⟩
  have HB2 := hide ((unhide HB1).trans (b2.mono (unhide HB1).size))
  have HR92 := hide ((unhide HR9).below b2 (unhide HR9).lt)
  clear b2 HLF
  go_wp2_with fail
  refine Calls.mono (unhide HLD _ (unhide HB2)) ?_
  rintro e w4 ⟨rfl, b4⟩
  have HB4 := hide ((unhide HB2).trans (b4.mono (unhide HB2).size))
  have b4a := b4.alloc b4.size (.cells LA 43)
  have HB5 := hide ((unhide HB4).alloc (unhide HB4).size (.cells LA 43))
  have HR95 := hide ((unhide HR92).below b4a (unhide HR92).lt)
  have HR11 : Hid (RowAt (w4.alloc (.cells LA 43)) w4.heap.size 43 (bv LD)) := hide (unhide HLA ▸ RowAt.new w4 43 (bv LD))
  have HE11 := hide ((unhide HR11).arr (unhide HLA))
  have HE9 := hide ((unhide HR95).arr (unhide HRA))
  clear b4 b4a HLD
  cases bb with
  | false =>
    go_wp2_with (refine wpList_store_new rfl 43 _ _ rfl LA rfl rfl (by rw [z27, unhide HLS]) (by rw [unhide HLS, unhide HZS]) (unhide HLO) ?_)
    go_ret
    exact ⟨rfl, unhide HB5⟩
  | true =>
    cases r with
    | true =>
      go_wp2_with (first
        | (refine wpList_store_new rfl 43 _ _ rfl LA rfl rfl (by rw [z27, unhide HLS]) (by rw [unhide HLS, unhide HZS]) (unhide HLO) ?_)
        | (refine wpList_load_if rfl 43 _ rfl w4.heap.size rfl 43 LA (0, 0) _ (unhide HE11) Tryd.underlying43 rfl (by rw [z27, unhide HLS]) ?_)
        | (refine wpList_load_if rfl 43 _ rfl w.heap.size rfl 43 RA (0, 0) _ (unhide HE9) Tryd.underlying43 rfl (by rw [z27, unhide HRS]) ?_))
      go_ret
      exact ⟨rfl, unhide HB5⟩
    | false =>
      go_wp2_with (first
        | (refine wpList_store_new rfl 43 _ _ rfl LA rfl rfl (by rw [z27, unhide HLS]) (by rw [unhide HLS, unhide HZS]) (unhide HLO) ?_)
        | (refine wpList_load_if rfl 43 _ rfl w4.heap.size rfl 43 LA (0, 0) _ (unhide HE11) Tryd.underlying43 rfl (by rw [z27, unhide HLS]) ?_)
        | (refine wpList_load_if rfl 43 _ rfl w.heap.size rfl 43 RA (0, 0) _ (unhide HE9) Tryd.underlying43 rfl (by rw [z27, unhide HRS]) ?_))
      go_ret
      exact ⟨rfl, unhide HB5⟩
end Go.Proofs.YtonkgiiacholeaaDoor

namespace Go.Proofs.YtonkgiiacholeaaDoor
set_option linter.unusedVariables false
set_option linter.unusedSimpArgs false
open Go.ChangeShapes Go.WideShapes Go.ChangeAt Go.RowKit Go.Joins

theorem take_eq_step {P Q : List (List Nat)} {j : Nat} {x y : List Nat} (hx : P[j]? = some x) (hy : Q[j]? = some y) (h : P.take j = Q.take j) : P.take (j + 1) = Q.take (j + 1) ↔ x = y := by
  rw [List.take_add_one, List.take_add_one, hx, hy, h]
  simp
set_option maxRecDepth 100000 in
set_option maxHeartbeats 8000000 in
theorem sums_equal (v u : Value) (P Q : List (List Nat)) (w : World) (hP : PS w v P) (hQ : PS w u Q) :
    Calls Tryd.prog 32 #[v, u] w fun e w' => e = .returned (.bool (decide (P = Q))) ∧ Below w.heap.size w w' := by
  obtain ⟨a, c, rfl, hc, hn, hl, hs⟩ := hP
  obtain ⟨a2, c2, rfl, hc2, hn2, hl2, hs2⟩ := hQ
  by_cases hlen : P.length = Q.length
  rotate_left
  · have hd : decide (P = Q) = false := decide_eq_false (fun e => hlen (by rw [e]))
    rw [hd]
    obtain ⟨n, hn'⟩ : ∃ n, P.length = n := ⟨_, rfl⟩
    obtain ⟨m, hm'⟩ : ∃ n, Q.length = n := ⟨_, rfl⟩
    rw [hn', hm'] at hlen
    rw [hn', hm']
    have q1 : ((n : Int) != (m : Int)) = true := bne_iff_ne.2 (by omega)
    have q2 : ((n : Int) == (m : Int)) = false := beq_eq_false_iff_ne.2 (by omega)
    have q3 : ¬ n = m := hlen
    clear hs hs2 hl hl2 hn hn2 hc hc2 hn' hm' hd
    go_enter Tryd.func32, Tryd.ntmps32
    go_wp2_with fail
    go_ret
    exact ⟨rfl, Below.refl _ _⟩
  obtain ⟨n, hn'⟩ : ∃ n, P.length = n := ⟨_, rfl⟩
  have hm' : Q.length = n := by omega
  rw [hn', hm']
  have nI : (n : Int) ≤ 1000000 := by omega
  have HL := hide (And.intro hn' hm')
  obtain ⟨rr, hrr⟩ : ∃ r, decide (P = Q) = r := ⟨_, rfl⟩
  have HRR := hide hrr
  rw [hrr]
  clear hrr
  have HS := hide (And.intro hs hs2)
  clear hs hs2 hl hl2 hn hn2 hc hc2 hn' hm' hlen
  go_enter Tryd.func32, Tryd.ntmps32
  go_wp2_with fail
  go_loopw [13] (fun s wr => ∃ j : Nat, j ≤ n ∧ s = .int .i64 (j : Int) ∧ Hid (P.take j = Q.take j ∧ Below w.heap.size w wr)) (fun s _ => (n - intOf s).toNat)
  case atStart => exact ⟨0, by omega, by simp, hide ⟨by simp, Below.refl _ _⟩⟩
  case round =>
    obtain ⟨j, hj, rfl, HI⟩ := hrel
    by_cases hlt : j < n
    · obtain ⟨hlP, hlQ⟩ := unhide HL
      obtain ⟨hs, hs2⟩ := unhide HS
      obtain ⟨ht, hb⟩ := unhide HI
      rcases hs with hs | ⟨g, o, rfl, hs⟩
      · rw [hs] at hlP; simp at hlP; omega
      rcases hs2 with hs2 | ⟨g2, o2, rfl, hs2⟩
      · rw [hs2] at hlQ; simp at hlQ; omega
      obtain ⟨x, hx⟩ : ∃ x, P[j]? = some x := ⟨_, List.getElem?_eq_getElem (by omega)⟩
      obtain ⟨y, hy⟩ : ∃ x, Q[j]? = some x := ⟨_, List.getElem?_eq_getElem (by omega)⟩
      obtain ⟨x1, x8, xr⟩ := (hs.call hb).at_ _ x hx
      obtain ⟨y1, y8, yr⟩ := (hs2.call hb).at_ _ y hy
      simp only [] at xr yr
      have hq := eq_sums x y x1 y1
      have HST := hide (take_eq_step hx hy ht)
      have HNE : Hid (x ≠ y → P ≠ Q) := hide (fun h e => h (by subst e; rw [hx] at hy; exact Option.some.inj hy))
      obtain ⟨X, hX⟩ : ∃ X, bv x = X := ⟨_, rfl⟩
      obtain ⟨Y, hY⟩ : ∃ Y, bv y = Y := ⟨_, rfl⟩
      have hiX : (Tryd.prog.info? 43).map (·.size) = some X.length := hX ▸ size43 x1
      have hiY : (Tryd.prog.info? 43).map (·.size) = some Y.length := hY ▸ size43 y1
      rw [hX] at xr hq
      rw [hY] at yr hq
      have HLX : Hid (∀ w', w' = wr.drew → (loadVar 43 ⟨g, o + j * 32, none⟩).run Tryd.prog w' = .ok (.agg X.toArray) w') := hide (fun w' e => by
        subst e
        exact run_loadVar_mid _ g (o + j * 32) 43 X _ ((World.rangeAt_drew _ _ _ _).2 xr) Tryd.underlying43 rfl hiX)
      have HLY : Hid (∀ w', w' = wr.drew → (loadVar 43 ⟨g2, o2 + j * 32, none⟩).run Tryd.prog w' = .ok (.agg Y.toArray) w') := hide (fun w' e => by
        subst e
        exact run_loadVar_mid _ g2 (o2 + j * 32) 43 Y _ ((World.rangeAt_drew _ _ _ _).2 yr) Tryd.underlying43 rfl hiY)
      obtain ⟨XA, hXA⟩ : ∃ A, X.toArray = A := ⟨_, rfl⟩
      obtain ⟨YA, hYA⟩ : ∃ A, Y.toArray = A := ⟨_, rfl⟩
      rw [hXA] at HLX hq
      rw [hYA] at HLY hq
      obtain ⟨r, hr⟩ : ∃ r, decide (x = y) = r := ⟨_, rfl⟩
      have HR := hide hr
      rw [hr] at hq
      have HB := hide hb
      have jI : (j : Int) < (n : Int) := by omega
      clear hXA hYA hX hY hiX hiY xr yr x1 y1 x8 y8 hx hy hs hs2 hb ht hlP hlQ hr HI hj
      cases r with
      | true =>
        go_wp2_with fail
        refine wp_region_tail 8 (by kernel_rfl) (by kernel_rfl) ?_
        simp only [List.take_succ_cons, List.take_zero, List.drop_succ_cons, List.drop_zero]
        repeat (first
          | (refine wpQuiet_load rfl 43 _ rfl ⟨g, o + j * 32, none⟩ rfl _ (unhide HLX) ?_; simp only [Act.put, List.setIfInBounds_toArray, List.set_cons_succ, List.set_cons_zero])
          | (refine wpQuiet_load rfl 43 _ rfl ⟨g2, o2 + j * 32, none⟩ rfl _ (unhide HLY) ?_; simp only [Act.put, List.setIfInBounds_toArray, List.set_cons_succ, List.set_cons_zero])
          | go_big_quiet_step (fail))
        refine wpQuiet_nil ?_
        go_wp2_with fail
        go_roundw
        case rel => exact ⟨j + 1, by omega, by simp, hide ⟨(unhide HST).2 (of_decide_eq_true (unhide HR)), (unhide HB).drew⟩⟩
        case measure => simp [intOf]; omega
      | false =>
        have hd : decide (P = Q) = false := decide_eq_false (unhide HNE (of_decide_eq_false (unhide HR)))
        have HD := hide (hd.symm.trans (unhide HRR))
        clear hd
        go_wp2_with fail
        refine wp_region_tail 8 (by kernel_rfl) (by kernel_rfl) ?_
        simp only [List.take_succ_cons, List.take_zero, List.drop_succ_cons, List.drop_zero]
        repeat (first
          | (refine wpQuiet_load rfl 43 _ rfl ⟨g, o + j * 32, none⟩ rfl _ (unhide HLX) ?_; simp only [Act.put, List.setIfInBounds_toArray, List.set_cons_succ, List.set_cons_zero])
          | (refine wpQuiet_load rfl 43 _ rfl ⟨g2, o2 + j * 32, none⟩ rfl _ (unhide HLY) ?_; simp only [Act.put, List.setIfInBounds_toArray, List.set_cons_succ, List.set_cons_zero])
          | go_big_quiet_step (fail))
        refine wpQuiet_nil ?_
        go_wp2_with fail
        go_ret
        exact ⟨by rw [← unhide HD]; rfl, (unhide HB).drew⟩
    · obtain rfl : j = n := by omega
      have jI : ¬ (j : Int) < (j : Int) := by omega
      have hd : decide (P = Q) = true := decide_eq_true (by
        have h := (unhide HI).1
        rw [List.take_of_length_le (by have := (unhide HL).1; omega), List.take_of_length_le (by have := (unhide HL).2; omega)] at h
        exact h)
      have HD := hide (hd.symm.trans (unhide HRR))
      clear hd hlt
      go_wp2_with fail
      go_ret
      exact ⟨by rw [← unhide HD]; rfl, (unhide HI).2⟩
end Go.Proofs.YtonkgiiacholeaaDoor

namespace Go.Proofs.YtonkgiiacholeaaDoor
set_option linter.unusedVariables false

theorem ex_root : digL [[97], [98], [99]] = knotL (digL [[97], [98]]) (leafL [99]) := by
  rw [digL_two (by decide)]
  have h : half [[97], [98], [99]].length = 2 := by decide
  rw [h]
  show knotL (digL [[97], [98]]) (digL [[99]]) = _
  rw [digL_one]
theorem ex_two : digL [[97], [98]] = knotL (leafL [97]) (leafL [98]) := by
  rw [digL_two (by decide)]
  have h : half [[97], [98]].length = 1 := by decide
  rw [h]
  show knotL (digL [[97]]) (digL [[98]]) = _
  rw [digL_one, digL_one]
theorem ex_prove : proveL [[97], [98], [99]] 2 = [digL [[97], [98]]] := by
  have h : half [[97], [98], [99]].length = 2 := by decide
  rw [proveL_high (by decide) (by rw [h]; decide), h]
  show proveL [[99]] 0 ++ [digL [[97], [98]]] = _
  rw [proveL_one (by decide)]; rfl
theorem ex_grown : grownL [[97], [98], [99]] 2 true = [leafL [99]] := by
  have h : half [[97], [98], [99]].length = 2 := by decide
  rw [grownL_low (by decide) (by decide) (by rw [h]; decide), h]
  show grownL [[97], [98]] 2 true ++ [digL [[99]]] = _
  rw [show grownL [[97], [98]] 2 true = [] from grownL_all rfl, digL_one]; rfl
theorem ex_lead (s y : List Nat) : leadL s 2 3 [y] = (knotL y s, true) := by
  have h : half 3 = 2 := by decide
  rw [leadL_high (by decide) (y := y) rfl (by rw [h]; decide), h]
  show (knotL y (leadL s 0 1 []).1, (leadL s 0 1 []).2) = _
  rw [leadL_one (by decide)]; rfl

set_option maxRecDepth 100000 in
theorem ex_other : decide (knotL (knotL (leafL [97]) (leafL [98])) (leafL [100]) = knotL (knotL (leafL [97]) (leafL [98])) (leafL [99])) = false := by kernel_rfl
end Go.Proofs.YtonkgiiacholeaaDoor
