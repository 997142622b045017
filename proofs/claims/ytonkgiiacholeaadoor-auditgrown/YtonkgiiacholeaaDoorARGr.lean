/- What the reference tells as a proof that a log has grown. -/
import Derived.Test.YtonkgiiacholeaaDoorARDg
namespace Go.Proofs.YtonkgiiacholeaaDoor
set_option linter.unusedVariables false
set_option linter.unusedSimpArgs false
open Go.ChangeShapes Go.WideShapes Go.ChangeAt Go.RowKit Go.Joins

theorem wp_append_sumG {o : Oper} {a : Act} {K : Act → World → Prop} {Q : Exit → Act → World → Prop} {W : World} (s x : Operand)
    (ho : o.op = .call { callee := .builtin .append, args := #[s, x], argTypes := #[54, 54] }) (B : Nat) (v : Value) (L : List (List Nat)) (D : List Nat) {A : Array Value} (hA : (bv D).toArray = A) (hD : D.length = 32 ∧ U8 D)
    (hs : a.eval s = v) (hv : Sms W B v L) (hL : L.length ≤ 1000) (hB : B ≤ W.heap.size) (hx : a.eval x = .slice (some ⟨W.heap.size, 0, none⟩) 1 1)
    (h : ∀ v' w', Sms w' B v' (L ++ [D]) → Below B W w' → K (a.put o.dst v') w') : o.wp Tryd.prog a (W.alloc (.cells A 43)) K Q := by
  obtain ⟨i43, hi43, hz43, hs43, hb43⟩ := info_parts info43
  have hzz : (Value.agg (bv (List.replicate 32 0)).toArray).cells.size = 32 := by simp [Value.cells, bv]
  have nw : ∀ k u, (bv D)[k]? = some u → (W.alloc (.cells A 43)).cell? ((⟨W.heap.size, 0, none⟩ : Addr).add k) = some u := by
    intro k u hk
    rw [← hA, add_plain, Nat.zero_add, (RowAt.new W 43 (bv D)).cell]
    exact hk
  refine wp_append_lies _ s x 54 ho B 43 i43 (.agg (bv (List.replicate 32 0)).toArray) 32 32 Tryd.underlying54 hi43 hz43 hs43 hb43 hzz (by decide) v L.length (bv L.flatten) hs (hv.alloc _).1 ⟨W.heap.size, 0, none⟩ 1 1 (bv D) hx (by rw [bv_len, hD.1]) nw (bv_one _) (by decide) (by unfold maxLen; omega) (by omega) (by rw [size_alloc]; omega) (W.heap.size + 1) (size_alloc _ _) ?_
  intro g cap w' own grow lies lt
  refine h _ w' ⟨?_, ?_⟩ ?_
  · rw [List.length_append, List.flatten_append, List.flatten_cons, List.flatten_nil, List.append_nil, bv_app]
    exact own
  · intro s hs
    rcases List.mem_append.1 hs with hs | hs
    · exact hv.2 s hs
    · obtain rfl := List.mem_singleton.1 hs; exact hD
  · exact ((Below.refl B W).alloc hB _).trans ((grown_only grow).below (by rw [size_alloc]; omega) (fun k hk => (hv.1.lt k hk).1))
set_option maxRecDepth 100000 in
set_option maxHeartbeats 8000000 in
theorem rgrown_any : ∀ (n : Nat) (a : Option Addr) (c : Nat) (P : List (Value × List Nat)) (i : Nat) (kn : Bool) (w : World), P.length = n → LL w (.slice a n c) P → (∀ x ∈ P, U8 x.2) → (∀ x ∈ P, x.2.length ≤ 100000) → 1 ≤ i → i ≤ n → n ≤ 1000 →
    Calls Tryd.prog 37 #[.slice a n c, .int .i64 (i : Int), .bool kn] w fun e w' => ∃ v, e = .returned v ∧ Below w.heap.size w w' ∧ Sms w' w.heap.size v (grownL (P.map (·.2)) i kn) := by
  intro n
  induction n using Nat.strongRecOn with
  | _ n ih =>
  intro a c P i kn w hn hL h8 hl hi1 hi hN
  by_cases h1 : i = n
  · subst h1
    rw [grownL_all (by rw [List.length_map, hn])]
    cases kn with
    | true =>
      clear ih hL h8 hl hi1 hi hN hn
      go_enter Tryd.func37, Tryd.ntmps37
      go_wp2_with fail
      go_ret
      exact ⟨_, rfl, Below.refl _ _, Sms.nil _ _⟩
    | false =>
      have HDG := hide (rdig_any i a c P w hn hL h8 hl hN)
      have u1 := digL_8 (P.map (·.2))
      have l1 := digL_len (P.map (·.2))
      rw [if_neg (by decide)]
      obtain ⟨D, hD⟩ : ∃ D, digL (P.map (·.2)) = D := ⟨_, rfl⟩
      rw [hD] at HDG u1 l1 ⊢
      obtain ⟨A, hA⟩ : ∃ A, (bv D).toArray = A := ⟨_, rfl⟩
      rw [hA] at HDG
      have asz : A.size = 32 := by rw [← hA, List.size_toArray, bv_len, l1]
      have HFO := hide (fun (Zx : Array Value) (hz : Zx.size = 32) => fold_build A Zx 32 asz hz)
      have HA := hide hA
      have HDD := hide (And.intro l1 u1)
      clear ih hL h8 hl hi1 hi hN hn u1 l1 hA hD
      go_enter Tryd.func37, Tryd.ntmps37
      go_wp2_with fail
      refine Calls.mono (unhide HDG) ?_
      rintro e w4 ⟨rfl, b4⟩
      have HB4 := hide b4
      clear b4 HDG
      go_wp2_with fail
      go_ret
      rw [unhide HFO _ rfl]
      exact ⟨_, rfl, (unhide HB4).alloc (unhide HB4).size _, Sms.one (unhide HA) (unhide HDD) (unhide HB4).size⟩
  have h2 : 2 ≤ n := by omega
  obtain ⟨ad, rfl⟩ := hL.addr (by omega)
  have hh := half_lt h2
  have hhp := half_pos n
  have hcn : n ≤ c := by
    obtain ⟨a', c', e1, e2, _⟩ := hL
    obtain ⟨-, -, rfl⟩ : some ad = a' ∧ n = P.length ∧ c = c' := by simpa using e1
    omega
  have HHF := hide (fun w => rhalf_any n w h2 (by omega))
  by_cases hik : i ≤ half n
  · have HI1 := hide (p := ∀ W, Below w.heap.size w W → _) (fun W hW => ih (half n) hh (some ad) c (P.take (half n)) i kn W (by rw [List.length_take]; omega) ((hL.take (by omega)).call hW) (fun x hx => h8 x (List.mem_of_mem_take hx)) (fun x hx => hl x (List.mem_of_mem_take hx)) hi1 hik (by omega))
    have HDG := hide (p := ∀ W, Below w.heap.size w W → _) (fun W hW => rdig_any (n - half n) (some (ad.add (half n))) (c - half n) (P.drop (half n)) W (by rw [List.length_drop]; omega) ((hL.drop hh).call hW) (fun x hx => h8 x (List.mem_of_mem_drop hx)) (fun x hx => hl x (List.mem_of_mem_drop hx)) (by omega))
    have e0 : grownL (P.map (·.2)) i kn = grownL ((P.take (half n)).map (·.2)) i kn ++ [digL ((P.drop (half n)).map (·.2))] := by
      rw [grownL_low (by rw [List.length_map, hn]; exact h1) (by rw [List.length_map]; omega) (by rw [List.length_map, hn]; exact hik), List.length_map, hn, List.map_take, List.map_drop]
    rw [e0]
    have hPL : (grownL ((P.take (half n)).map (·.2)) i kn).length ≤ 1000 := Nat.le_trans (grownL_ok (half n) _ _ _ (by rw [List.length_map, List.length_take]; omega) (by omega)) (by omega)
    have u1 := digL_8 (((P.drop (half n)).map (·.2)))
    have l1 := digL_len (((P.drop (half n)).map (·.2)))
    obtain ⟨D, hD⟩ : ∃ D, digL ((P.drop (half n)).map (·.2)) = D := ⟨_, rfl⟩
    obtain ⟨L, hL'⟩ : ∃ L, grownL ((P.take (half n)).map (·.2)) i kn = L := ⟨_, rfl⟩
    rw [hD] at HDG u1 l1 ⊢
    rw [hL'] at hPL ⊢
    rw [hL'] at HI1
    obtain ⟨A, hA⟩ : ∃ A, (bv D).toArray = A := ⟨_, rfl⟩
    rw [hA] at HDG
    obtain ⟨k, hk⟩ : ∃ k, half n = k := ⟨_, rfl⟩
    rw [hk] at HHF HI1 HDG hh hhp hik
    have nI : (n : Int) ≤ 1000 := by omega
    have kI : (k : Int) < (n : Int) := by omega
    have k1 : (1 : Int) ≤ (k : Int) := by omega
    have n1 : ((i : Int) == (n : Int)) = false := beq_eq_false_iff_ne.2 (by omega)
    have q1 : (k : Int) ≤ (c : Int) := by omega
    have q2 : k ≤ c := by omega
    have q3 : ¬ c = k := by omega
    have q4 : (k : Int) ≤ (n : Int) := by omega
    have q5 : k ≤ n := by omega
    have q6 : (n : Int) ≤ (c : Int) := by omega
    have q7 : ((n : Int) - (k : Int)).toNat = n - k := by omega
    have ik : (i : Int) ≤ (k : Int) := by omega
    have asz : A.size = 32 := by rw [← hA, List.size_toArray, bv_len, l1]
    have fo1 : ∀ Zx : Array Value, Zx.size = 32 → Array.foldl (fun (cs : Array Value) (x : Value × Nat) => cs.setIfInBounds x.2 x.1) Zx A.zipIdx 0 32 = A := fun Zx hz => fold_build A Zx 32 asz hz
    have HA := hide hA
    have HDD := hide (And.intro l1 u1)
    have HPL := hide hPL
    have hk0 : Below w.heap.size w w.drew := (Below.refl _ _).drew
    clear ih hL h8 hl hN hi hi1 h1 h2 hh hhp hik hk hD hL' hA u1 l1 hPL e0 hcn hn
    go_enter Tryd.func37, Tryd.ntmps37
    go_wp2_with fail
    refine Calls.mono (unhide HHF _) ?_
    rintro e w2 ⟨rfl, rfl⟩
    go_wp2_with fail
    refine wp_region_held_drew (S := fun _ => True) (by kernel_rfl) trivial (fun _ => ?_)
    refine wpAnyH_take (i := 0) (oi := { dst := some 28, op := Op.move (Operand.tmp 0), type := 35, pos := "ref.go:102", after := #[], guard := none }) (v := .slice (some ad) n c) rfl (by kernel_rfl) (by kernel_rfl) (by kernel_rfl) (fun _ _ _ h => h) (Or.inl ⟨by rfl, ?_⟩) trivial ?_
    · intro w hSw
      first
        | rfl
        | (go_simp; done)
    try simp only [Act.put, List.setIfInBounds_toArray, List.set_cons_zero, List.set_cons_succ]
    refine wpAnyH_take (i := 1) (oi := { dst := some 29, op := Op.move (Operand.tmp 8), type := 3, pos := "ref.go:102", after := #[], guard := none }) (v := .int .i64 (k : Int)) rfl (by kernel_rfl) (by kernel_rfl) (by kernel_rfl) (fun _ _ _ h => h) (Or.inl ⟨by rfl, ?_⟩) trivial ?_
    · intro w hSw
      first
        | rfl
        | (go_simp; done)
    try simp only [Act.put, List.setIfInBounds_toArray, List.set_cons_zero, List.set_cons_succ]
    refine wpAnyH_take (i := 2) (oi := { dst := some 30, op := Op.slice 35 (Operand.tmp 28) none (some (Operand.tmp 29)) none, type := 35, pos := "ref.go:102", after := #[{ on := 0, ground := Ground.data }, { on := 1, ground := Ground.data }], guard := none }) (v := .slice (some ad) k c) rfl (by kernel_rfl) (by kernel_rfl) (by kernel_rfl) (fun _ _ _ h => h) (Or.inl ⟨by rfl, ?_⟩) trivial ?_
    · intro w hSw
      first
        | rfl
        | (go_simp; done)
    try simp only [Act.put, List.setIfInBounds_toArray, List.set_cons_zero, List.set_cons_succ]
    refine wpAnyH_take (i := 3) (oi := { dst := some 31, op := Op.move (Operand.tmp 1), type := 3, pos := "ref.go:102", after := #[], guard := none }) (v := .int .i64 (i : Int)) rfl (by kernel_rfl) (by kernel_rfl) (by kernel_rfl) (fun _ _ _ h => h) (Or.inl ⟨by rfl, ?_⟩) trivial ?_
    · intro w hSw
      first
        | rfl
        | (go_simp; done)
    try simp only [Act.put, List.setIfInBounds_toArray, List.set_cons_zero, List.set_cons_succ]
    refine wpAnyH_take (i := 4) (oi := { dst := some 32, op := Op.move (Operand.tmp 2), type := 4, pos := "ref.go:102", after := #[], guard := none }) (v := .bool kn) rfl (by kernel_rfl) (by kernel_rfl) (by kernel_rfl) (fun _ _ _ h => h) (Or.inl ⟨by rfl, ?_⟩) trivial ?_
    · intro w hSw
      first
        | rfl
        | (go_simp; done)
    try simp only [Act.put, List.setIfInBounds_toArray, List.set_cons_zero, List.set_cons_succ]
    refine wpAnyH_take (i := 6) (oi := { dst := some 34, op := Op.move (Operand.tmp 0), type := 35, pos := "ref.go:102", after := #[], guard := none }) (v := .slice (some ad) n c) rfl (by kernel_rfl) (by kernel_rfl) (by kernel_rfl) (fun _ _ _ h => h) (Or.inl ⟨by rfl, ?_⟩) trivial ?_
    · intro w hSw
      first
        | rfl
        | (go_simp; done)
    try simp only [Act.put, List.setIfInBounds_toArray, List.set_cons_zero, List.set_cons_succ]
    refine wpAnyH_take (i := 7) (oi := { dst := some 35, op := Op.move (Operand.tmp 8), type := 3, pos := "ref.go:102", after := #[], guard := none }) (v := .int .i64 (k : Int)) rfl (by kernel_rfl) (by kernel_rfl) (by kernel_rfl) (fun _ _ _ h => h) (Or.inl ⟨by rfl, ?_⟩) trivial ?_
    · intro w hSw
      first
        | rfl
        | (go_simp; done)
    try simp only [Act.put, List.setIfInBounds_toArray, List.set_cons_zero, List.set_cons_succ]
    refine wpAnyH_take (i := 8) (oi := { dst := some 36, op := Op.slice 35 (Operand.tmp 34) (some (Operand.tmp 35)) none none, type := 35, pos := "ref.go:102", after := #[{ on := 6, ground := Ground.data }, { on := 7, ground := Ground.data }], guard := none }) (v := .slice (some (ad.add k)) (n - k) (c - k)) rfl (by kernel_rfl) (by kernel_rfl) (by kernel_rfl) (fun _ _ _ h => h) (Or.inl ⟨by rfl, ?_⟩) trivial ?_
    · intro w hSw
      first
        | rfl
        | (go_simp; done)
    try simp only [Act.put, List.setIfInBounds_toArray, List.set_cons_zero, List.set_cons_succ]
    refine wpAnyH_ready (rs := [5]) (by kernel_rfl) (by simp) ?_
    refine AllReadyH.cons (o := { dst := some 33, op := Op.call { callee := Callee.value (Operand.func 37), args := #[Operand.tmp 30, Operand.tmp 31, Operand.tmp 32], argTypes := #[35, 3, 4] }, type := 54, pos := "ref.go:102", after := #[{ on := 2, ground := Ground.data }, { on := 3, ground := Ground.data }, { on := 4, ground := Ground.data }], guard := none }) rfl (fun K hK => ?_) AllReadyH.nil
    go_simp
    refine Calls.mono (unhide HI1 _ hk0) ?_
    rintro e w3 ⟨v, rfl, b3, S3⟩
    have HB3 := hide (bcall hk0 b3)
    have HS3 := hide S3
    clear b3 S3 HI1
    go_wp2_with fail
    refine hK.out _ _ ?_ (fun _ => ?_)
    · trivial
    clear hK K
    try simp only [Act.put, List.setIfInBounds_toArray, List.set_cons_zero, List.set_cons_succ]
    refine wpAnyH_ready (rs := [9]) (by kernel_rfl) (by simp) ?_
    refine AllReadyH.cons (o := { dst := some 37, op := Op.call { callee := Callee.value (Operand.func 27), args := #[Operand.tmp 36], argTypes := #[35] }, type := 43, pos := "ref.go:102", after := #[{ on := 8, ground := Ground.data }, { on := 5, ground := Ground.chain }], guard := none }) rfl (fun K hK => ?_) AllReadyH.nil
    go_simp
    refine Calls.mono (unhide HDG _ (unhide HB3)) ?_
    rintro e w4 ⟨rfl, b4⟩
    have HB4 := hide (bcall (unhide HB3) b4)
    have HS4 := hide ((unhide HS3).call b4)
    clear b4 HB3 HS3 HDG
    go_wp2_with fail
    refine hK.out _ _ ?_ (fun _ => ?_)
    · trivial
    clear hK K
    try simp only [Act.put, List.setIfInBounds_toArray, List.set_cons_zero, List.set_cons_succ]
    refine wpAnyH_ready (rs := [10]) (by kernel_rfl) (by simp) ?_
    refine AllReadyH.cons (o := { dst := some 38, op := Op.buildSlice 54 1 #[(0, Operand.tmp 37)], type := 54, pos := "ref.go:102", after := #[{ on := 9, ground := Ground.data }], guard := none }) rfl (fun K hK => ?_) AllReadyH.nil
    go_simp
    refine hK.out _ _ ?_ (fun _ => ?_)
    · trivial
    clear hK K
    try simp only [Act.put, List.setIfInBounds_toArray, List.set_cons_zero, List.set_cons_succ]
    refine wpAnyH_ready (rs := [11]) (by kernel_rfl) (by simp) ?_
    refine AllReadyH.cons (o := { dst := some 39, op := Op.call { callee := Callee.builtin Builtin.append, args := #[Operand.tmp 33, Operand.tmp 38], argTypes := #[54, 54] }, type := 54, pos := "ref.go:102", after := #[{ on := 5, ground := Ground.data }, { on := 10, ground := Ground.data }, { on := 9, ground := Ground.chain }], guard := none }) rfl (fun K hK => ?_) AllReadyH.nil
    rw [if_pos (by rfl)]
    refine wp_append_sumG (W := w4) _ _ rfl w.heap.size v L D (unhide HA) (unhide HDD) rfl (unhide HS4) (unhide HPL) (unhide HB4).size rfl ?_
    intro v' w5 S5 b5
    have HS5 := hide S5
    have HB5 := hide ((unhide HB4).trans b5)
    clear S5 b5
    refine hK.out _ _ ?_ (fun _ => ?_)
    · trivial
    clear hK K
    try simp only [Act.put, List.setIfInBounds_toArray, List.set_cons_zero, List.set_cons_succ]
    refine wpAnyH_take (i := 12) (oi := { dst := some 6, op := Op.assign (Operand.tmp 39), type := 54, pos := "ref.go:102", after := #[{ on := 11, ground := Ground.data }, { on := 11, ground := Ground.chain }, { on := 0, ground := Ground.phase }, { on := 1, ground := Ground.phase }, { on := 2, ground := Ground.phase }, { on := 3, ground := Ground.phase }, { on := 4, ground := Ground.phase }, { on := 5, ground := Ground.phase }, { on := 6, ground := Ground.phase }, { on := 7, ground := Ground.phase }, { on := 8, ground := Ground.phase }, { on := 9, ground := Ground.phase }, { on := 10, ground := Ground.phase }, { on := 11, ground := Ground.phase }], guard := none }) (v := v') rfl (by kernel_rfl) (by kernel_rfl) (by kernel_rfl) (fun _ _ _ h => h) (Or.inl ⟨by rfl, ?_⟩) trivial ?_
    · intro w hSw
      first
        | rfl
        | (go_simp; done)
    try simp only [Act.put, List.setIfInBounds_toArray, List.set_cons_zero, List.set_cons_succ]
    refine wpAnyH_done (by kernel_rfl) ?_ _
    go_wp2_with fail
    go_ret
    exact ⟨_, rfl, unhide HB5, unhide HS5⟩
  · have HI1 := hide (p := ∀ W, Below w.heap.size w W → _) (fun W hW => ih (n - half n) (by omega) (some (ad.add (half n))) (c - half n) (P.drop (half n)) (i - half n) false W (by rw [List.length_drop]; omega) ((hL.drop hh).call hW) (fun x hx => h8 x (List.mem_of_mem_drop hx)) (fun x hx => hl x (List.mem_of_mem_drop hx)) (by omega) (by omega) (by omega))
    have HDG := hide (p := ∀ W, Below w.heap.size w W → _) (fun W hW => rdig_any (half n) (some ad) c (P.take (half n)) W (by rw [List.length_take]; omega) ((hL.take (by omega)).call hW) (fun x hx => h8 x (List.mem_of_mem_take hx)) (fun x hx => hl x (List.mem_of_mem_take hx)) (by omega))
    have e0 : grownL (P.map (·.2)) i kn = grownL ((P.drop (half n)).map (·.2)) (i - half n) false ++ [digL ((P.take (half n)).map (·.2))] := by
      rw [grownL_high (by rw [List.length_map, hn]; exact h1) (by rw [List.length_map]; omega) (by rw [List.length_map, hn]; exact hik), List.length_map, hn, List.map_take, List.map_drop]
    rw [e0]
    have hPL : (grownL ((P.drop (half n)).map (·.2)) (i - half n) false).length ≤ 1000 := Nat.le_trans (grownL_ok (n - half n) _ _ _ (by rw [List.length_map, List.length_drop]; omega) (by omega)) (by omega)
    have u1 := digL_8 (((P.take (half n)).map (·.2)))
    have l1 := digL_len (((P.take (half n)).map (·.2)))
    obtain ⟨D, hD⟩ : ∃ D, digL ((P.take (half n)).map (·.2)) = D := ⟨_, rfl⟩
    obtain ⟨L, hL'⟩ : ∃ L, grownL ((P.drop (half n)).map (·.2)) (i - half n) false = L := ⟨_, rfl⟩
    rw [hD] at HDG u1 l1 ⊢
    rw [hL'] at hPL ⊢
    rw [hL'] at HI1
    obtain ⟨A, hA⟩ : ∃ A, (bv D).toArray = A := ⟨_, rfl⟩
    rw [hA] at HDG
    obtain ⟨k, hk⟩ : ∃ k, half n = k := ⟨_, rfl⟩
    rw [hk] at HHF HI1 HDG hh hhp hik
    have e3 : ((i - k : Nat) : Int) = (i : Int) - (k : Int) := by omega
    rw [e3] at HI1
    clear e3
    have nI : (n : Int) ≤ 1000 := by omega
    have kI : (k : Int) < (n : Int) := by omega
    have k1 : (1 : Int) ≤ (k : Int) := by omega
    have n1 : ((i : Int) == (n : Int)) = false := beq_eq_false_iff_ne.2 (by omega)
    have q1 : (k : Int) ≤ (c : Int) := by omega
    have q2 : k ≤ c := by omega
    have q3 : ¬ c = k := by omega
    have q4 : (k : Int) ≤ (n : Int) := by omega
    have q5 : k ≤ n := by omega
    have q6 : (n : Int) ≤ (c : Int) := by omega
    have q7 : ((n : Int) - (k : Int)).toNat = n - k := by omega
    have ik : ¬ (i : Int) ≤ (k : Int) := by omega
    have iI : (i : Int) ≤ (n : Int) := by omega
    have e4 : IntKind.i64.wrap ((i : Int) - (k : Int)) = (i : Int) - (k : Int) := by unfold IntKind.wrap; simp [IntKind.bits, IntKind.signed]; omega
    have asz : A.size = 32 := by rw [← hA, List.size_toArray, bv_len, l1]
    have fo1 : ∀ Zx : Array Value, Zx.size = 32 → Array.foldl (fun (cs : Array Value) (x : Value × Nat) => cs.setIfInBounds x.2 x.1) Zx A.zipIdx 0 32 = A := fun Zx hz => fold_build A Zx 32 asz hz
    have HA := hide hA
    have HDD := hide (And.intro l1 u1)
    have HPL := hide hPL
    have hk0 : Below w.heap.size w w.drew := (Below.refl _ _).drew
    clear ih hL h8 hl hN hi hi1 h1 h2 hh hhp hik hk hD hL' hA u1 l1 hPL e0 hcn hn
    go_enter Tryd.func37, Tryd.ntmps37
    go_wp2_with fail
    refine Calls.mono (unhide HHF _) ?_
    rintro e w2 ⟨rfl, rfl⟩
    go_wp2_with fail
    refine wp_region_held_drew (S := fun _ => True) (by kernel_rfl) trivial (fun _ => ?_)
    refine wpAnyH_take (i := 0) (oi := { dst := some 40, op := Op.move (Operand.tmp 0), type := 35, pos := "ref.go:104", after := #[], guard := none }) (v := .slice (some ad) n c) rfl (by kernel_rfl) (by kernel_rfl) (by kernel_rfl) (fun _ _ _ h => h) (Or.inl ⟨by rfl, ?_⟩) trivial ?_
    · intro w hSw
      first
        | rfl
        | (go_simp; done)
    try simp only [Act.put, List.setIfInBounds_toArray, List.set_cons_zero, List.set_cons_succ]
    refine wpAnyH_take (i := 1) (oi := { dst := some 41, op := Op.move (Operand.tmp 8), type := 3, pos := "ref.go:104", after := #[], guard := none }) (v := .int .i64 (k : Int)) rfl (by kernel_rfl) (by kernel_rfl) (by kernel_rfl) (fun _ _ _ h => h) (Or.inl ⟨by rfl, ?_⟩) trivial ?_
    · intro w hSw
      first
        | rfl
        | (go_simp; done)
    try simp only [Act.put, List.setIfInBounds_toArray, List.set_cons_zero, List.set_cons_succ]
    refine wpAnyH_take (i := 2) (oi := { dst := some 42, op := Op.slice 35 (Operand.tmp 40) (some (Operand.tmp 41)) none none, type := 35, pos := "ref.go:104", after := #[{ on := 0, ground := Ground.data }, { on := 1, ground := Ground.data }], guard := none }) (v := .slice (some (ad.add k)) (n - k) (c - k)) rfl (by kernel_rfl) (by kernel_rfl) (by kernel_rfl) (fun _ _ _ h => h) (Or.inl ⟨by rfl, ?_⟩) trivial ?_
    · intro w hSw
      first
        | rfl
        | (go_simp; done)
    try simp only [Act.put, List.setIfInBounds_toArray, List.set_cons_zero, List.set_cons_succ]
    refine wpAnyH_take (i := 3) (oi := { dst := some 43, op := Op.move (Operand.tmp 1), type := 3, pos := "ref.go:104", after := #[], guard := none }) (v := .int .i64 (i : Int)) rfl (by kernel_rfl) (by kernel_rfl) (by kernel_rfl) (fun _ _ _ h => h) (Or.inl ⟨by rfl, ?_⟩) trivial ?_
    · intro w hSw
      first
        | rfl
        | (go_simp; done)
    try simp only [Act.put, List.setIfInBounds_toArray, List.set_cons_zero, List.set_cons_succ]
    refine wpAnyH_take (i := 4) (oi := { dst := some 44, op := Op.move (Operand.tmp 8), type := 3, pos := "ref.go:104", after := #[], guard := none }) (v := .int .i64 (k : Int)) rfl (by kernel_rfl) (by kernel_rfl) (by kernel_rfl) (fun _ _ _ h => h) (Or.inl ⟨by rfl, ?_⟩) trivial ?_
    · intro w hSw
      first
        | rfl
        | (go_simp; done)
    try simp only [Act.put, List.setIfInBounds_toArray, List.set_cons_zero, List.set_cons_succ]
    refine wpAnyH_take (i := 5) (oi := { dst := some 45, op := Op.binOp BinOp.sub 3 (Operand.tmp 43) (Operand.tmp 44) 3, type := 3, pos := "ref.go:104", after := #[{ on := 3, ground := Ground.data }, { on := 4, ground := Ground.data }], guard := none }) (v := .int .i64 ((i : Int) - (k : Int))) rfl (by kernel_rfl) (by kernel_rfl) (by kernel_rfl) (fun _ _ _ h => h) (Or.inl ⟨by rfl, ?_⟩) trivial ?_
    · intro w hSw
      first
        | rfl
        | (go_simp; done)
    try simp only [Act.put, List.setIfInBounds_toArray, List.set_cons_zero, List.set_cons_succ]
    refine wpAnyH_take (i := 7) (oi := { dst := some 47, op := Op.move (Operand.tmp 0), type := 35, pos := "ref.go:104", after := #[], guard := none }) (v := .slice (some ad) n c) rfl (by kernel_rfl) (by kernel_rfl) (by kernel_rfl) (fun _ _ _ h => h) (Or.inl ⟨by rfl, ?_⟩) trivial ?_
    · intro w hSw
      first
        | rfl
        | (go_simp; done)
    try simp only [Act.put, List.setIfInBounds_toArray, List.set_cons_zero, List.set_cons_succ]
    refine wpAnyH_take (i := 8) (oi := { dst := some 48, op := Op.move (Operand.tmp 8), type := 3, pos := "ref.go:104", after := #[], guard := none }) (v := .int .i64 (k : Int)) rfl (by kernel_rfl) (by kernel_rfl) (by kernel_rfl) (fun _ _ _ h => h) (Or.inl ⟨by rfl, ?_⟩) trivial ?_
    · intro w hSw
      first
        | rfl
        | (go_simp; done)
    try simp only [Act.put, List.setIfInBounds_toArray, List.set_cons_zero, List.set_cons_succ]
    refine wpAnyH_take (i := 9) (oi := { dst := some 49, op := Op.slice 35 (Operand.tmp 47) none (some (Operand.tmp 48)) none, type := 35, pos := "ref.go:104", after := #[{ on := 7, ground := Ground.data }, { on := 8, ground := Ground.data }], guard := none }) (v := .slice (some ad) k c) rfl (by kernel_rfl) (by kernel_rfl) (by kernel_rfl) (fun _ _ _ h => h) (Or.inl ⟨by rfl, ?_⟩) trivial ?_
    · intro w hSw
      first
        | rfl
        | (go_simp; done)
    try simp only [Act.put, List.setIfInBounds_toArray, List.set_cons_zero, List.set_cons_succ]
    refine wpAnyH_ready (rs := [6]) (by kernel_rfl) (by simp) ?_
    refine AllReadyH.cons (o := { dst := some 46, op := Op.call { callee := Callee.value (Operand.func 37), args := #[Operand.tmp 42, Operand.tmp 45, Operand.const (Value.bool false)], argTypes := #[35, 3, 4] }, type := 54, pos := "ref.go:104", after := #[{ on := 2, ground := Ground.data }, { on := 5, ground := Ground.data }], guard := none }) rfl (fun K hK => ?_) AllReadyH.nil
    go_simp
    refine Calls.mono (unhide HI1 _ hk0) ?_
    rintro e w3 ⟨v, rfl, b3, S3⟩
    have HB3 := hide (bcall hk0 b3)
    have HS3 := hide S3
    clear b3 S3 HI1
    go_wp2_with fail
    refine hK.out _ _ ?_ (fun _ => ?_)
    · trivial
    clear hK K
    try simp only [Act.put, List.setIfInBounds_toArray, List.set_cons_zero, List.set_cons_succ]
    refine wpAnyH_ready (rs := [10]) (by kernel_rfl) (by simp) ?_
    refine AllReadyH.cons (o := { dst := some 50, op := Op.call { callee := Callee.value (Operand.func 27), args := #[Operand.tmp 49], argTypes := #[35] }, type := 43, pos := "ref.go:104", after := #[{ on := 9, ground := Ground.data }, { on := 6, ground := Ground.chain }], guard := none }) rfl (fun K hK => ?_) AllReadyH.nil
    go_simp
    refine Calls.mono (unhide HDG _ (unhide HB3)) ?_
    rintro e w4 ⟨rfl, b4⟩
    have HB4 := hide (bcall (unhide HB3) b4)
    have HS4 := hide ((unhide HS3).call b4)
    clear b4 HB3 HS3 HDG
    go_wp2_with fail
    refine hK.out _ _ ?_ (fun _ => ?_)
    · trivial
    clear hK K
    try simp only [Act.put, List.setIfInBounds_toArray, List.set_cons_zero, List.set_cons_succ]
    refine wpAnyH_ready (rs := [11]) (by kernel_rfl) (by simp) ?_
    refine AllReadyH.cons (o := { dst := some 51, op := Op.buildSlice 54 1 #[(0, Operand.tmp 50)], type := 54, pos := "ref.go:104", after := #[{ on := 10, ground := Ground.data }], guard := none }) rfl (fun K hK => ?_) AllReadyH.nil
    go_simp
    refine hK.out _ _ ?_ (fun _ => ?_)
    · trivial
    clear hK K
    try simp only [Act.put, List.setIfInBounds_toArray, List.set_cons_zero, List.set_cons_succ]
    refine wpAnyH_ready (rs := [12]) (by kernel_rfl) (by simp) ?_
    refine AllReadyH.cons (o := { dst := some 52, op := Op.call { callee := Callee.builtin Builtin.append, args := #[Operand.tmp 46, Operand.tmp 51], argTypes := #[54, 54] }, type := 54, pos := "ref.go:104", after := #[{ on := 6, ground := Ground.data }, { on := 11, ground := Ground.data }, { on := 10, ground := Ground.chain }], guard := none }) rfl (fun K hK => ?_) AllReadyH.nil
    rw [if_pos (by rfl)]
    refine wp_append_sumG (W := w4) _ _ rfl w.heap.size v L D (unhide HA) (unhide HDD) rfl (unhide HS4) (unhide HPL) (unhide HB4).size rfl ?_
    intro v' w5 S5 b5
    have HS5 := hide S5
    have HB5 := hide ((unhide HB4).trans b5)
    clear S5 b5
    refine hK.out _ _ ?_ (fun _ => ?_)
    · trivial
    clear hK K
    try simp only [Act.put, List.setIfInBounds_toArray, List.set_cons_zero, List.set_cons_succ]
    refine wpAnyH_take (i := 13) (oi := { dst := some 6, op := Op.assign (Operand.tmp 52), type := 54, pos := "ref.go:104", after := #[{ on := 12, ground := Ground.data }, { on := 12, ground := Ground.chain }, { on := 0, ground := Ground.phase }, { on := 1, ground := Ground.phase }, { on := 2, ground := Ground.phase }, { on := 3, ground := Ground.phase }, { on := 4, ground := Ground.phase }, { on := 5, ground := Ground.phase }, { on := 6, ground := Ground.phase }, { on := 7, ground := Ground.phase }, { on := 8, ground := Ground.phase }, { on := 9, ground := Ground.phase }, { on := 10, ground := Ground.phase }, { on := 11, ground := Ground.phase }, { on := 12, ground := Ground.phase }], guard := none }) (v := v') rfl (by kernel_rfl) (by kernel_rfl) (by kernel_rfl) (fun _ _ _ h => h) (Or.inl ⟨by rfl, ?_⟩) trivial ?_
    · intro w hSw
      first
        | rfl
        | (go_simp; done)
    try simp only [Act.put, List.setIfInBounds_toArray, List.set_cons_zero, List.set_cons_succ]
    refine wpAnyH_done (by kernel_rfl) ?_ _
    go_wp2_with fail
    go_ret
    exact ⟨_, rfl, unhide HB5, unhide HS5⟩
end Go.Proofs.YtonkgiiacholeaaDoor
