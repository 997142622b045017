/- The reference's digest of entries. -/
import Derived.Test.YtonkgiiacholeaaDoorAAw
namespace Go.Proofs.YtonkgiiacholeaaDoor
set_option linter.unusedVariables false
set_option linter.unusedSimpArgs false
open Go.ChangeShapes Go.WideShapes Go.ChangeAt Go.RowKit Go.Joins

theorem LL.take {w : World} {a : Option Addr} {n c k : Nat} {P : List (Value × List Nat)} (h : LL w (.slice a n c) P) (hk : k ≤ n) : LL w (.slice a k c) (P.take k) := by
  obtain ⟨a', c', h1, h2, h3⟩ := h
  obtain ⟨rfl, rfl, rfl⟩ : a = a' ∧ n = P.length ∧ c = c' := by simpa using h1
  refine ⟨a, c, by rw [List.length_take, Nat.min_eq_left hk], ⟨by rw [List.length_take]; omega, h2.2⟩, fun i u l hi => h3 i u l ?_⟩
  rw [List.getElem?_take] at hi
  split at hi
  · exact hi
  · cases hi
theorem LL.drop {w : World} {ad : Addr} {n c k : Nat} {P : List (Value × List Nat)} (h : LL w (.slice (some ad) n c) P) (hk : k < n) : LL w (.slice (some (ad.add k)) (n - k) (c - k)) (P.drop k) := by
  obtain ⟨a', c', h1, h2, h3⟩ := h
  obtain ⟨ha, rfl, rfl⟩ : some ad = a' ∧ n = P.length ∧ c = c' := by simpa using h1
  subst ha
  refine ⟨_, c - k, by rw [List.length_drop], ⟨by rw [List.length_drop]; omega, by have := h2.2; omega⟩, fun i u l hi => ?_⟩
  rw [List.getElem?_drop] at hi
  obtain ⟨⟨b, hb, hc⟩, hY⟩ := h3 _ u l hi
  obtain rfl := Option.some.inj hb
  exact ⟨⟨_, rfl, by rw [add_add]; exact hc⟩, hY⟩
theorem LL.addr {w : World} {a : Option Addr} {n c : Nat} {P : List (Value × List Nat)} (h : LL w (.slice a n c) P) (hn : 0 < n) : ∃ ad, a = some ad := by
  obtain ⟨a', c', h1, h2, h3⟩ := h
  obtain ⟨rfl, rfl, rfl⟩ : a = a' ∧ n = P.length ∧ c = c' := by simpa using h1
  obtain ⟨⟨b, hb, _⟩, _⟩ := h3 0 _ _ (List.getElem?_eq_getElem hn)
  exact ⟨b, hb⟩
set_option maxRecDepth 100000 in
set_option maxHeartbeats 8000000 in
theorem rdig_none (a : Option Addr) (c : Nat) (P : List (Value × List Nat)) (w : World) (hP : P.length = 0) : Calls Tryd.prog 27 #[.slice a 0 c] w fun e w' => e = .returned (.agg (bv (digL (P.map (·.2)))).toArray) ∧ Below w.heap.size w w' := by
  have hz := zero27
  generalize hZ : (bv (List.replicate 32 0)).toArray = Z at hz
  have HZE := hide hZ
  have HZS : Hid (Z.size = 32) := hide (by rw [← hZ, List.size_toArray, bv_len, List.length_replicate])
  have b1 : Below w.heap.size w (w.alloc (.cells Z 43)) := (Below.refl _ _).alloc (Nat.le_refl _) _
  have HR1 : Hid (RowAt (w.alloc (.cells Z 43)) w.heap.size 43 (bv (List.replicate 32 0))) := hide (hZ ▸ RowAt.new w 43 (bv (List.replicate 32 0)))
  have HB1 := hide b1
  obtain ⟨DD, hDD⟩ : ∃ D, digL (P.map (·.2)) = D := ⟨_, rfl⟩
  have dl : DD.length = 32 := by rw [← hDD]; exact digL_len _
  obtain ⟨EA, hEA⟩ : ∃ A, (bv DD).toArray = A := ⟨_, rfl⟩
  have HES : Hid (EA.size = 32) := hide (by rw [← hEA, List.size_toArray, bv_len, dl])
  have HEO : Hid (EA.all (·.oneCell') = true) := hide (hEA ▸ one_bv _)
  rw [hDD, hEA]
  have HC := hide (digest0 (.slice none 0 0) [] (w.alloc (.cells Z 43)) (.inl ⟨rfl, rfl⟩) (fun y hy => by cases hy) (by simp))
  have e0 : sumL (stW 0) [] = DD := by
    rw [← hDD, List.length_eq_zero_iff.1 hP, List.map_nil, digL_nil]; rfl
  rw [e0, hEA] at HC
  clear b1 hZ hDD hEA dl hP e0
  go_enter Tryd.func27, Tryd.ntmps27
  go_wp2_with fail
  generalize w.alloc (.cells Z 43) = w1 at *
  refine Calls.mono (unhide HC) ?_
  rintro e w5 ⟨rfl, b5⟩
  have HE2 := hide (((unhide HR1).below b5 (unhide HR1).lt).arr (unhide HZE))
  have HB5 := hide ((unhide HB1).trans (b5.mono (unhide HB1).size))
  clear b5
  go_wp2_with (refine wpList_store_row rfl 43 _ _ rfl w.heap.size EA rfl rfl 43 Z (unhide HE2) (by rw [z27, unhide HES]) (by rw [unhide HES, unhide HZS]) (unhide HEO) ?_)
  refine bodyPost_ret (results_cell_row Tryd.results27 _ _ w.heap.size 43 EA (0, 0) _ rfl (setRow_heap _ _ _ _ _ _ (unhide HE2)) Tryd.underlying43 rfl (by rw [z27, unhide HES])) rfl ⟨rfl, ?_⟩
  exact Below.trans (unhide HB5) ⟨rfl, rfl, rfl, by simp [World.setRow], fun k hk => setRow_other _ _ _ _ (by omega)⟩
set_option maxRecDepth 100000 in
set_option maxHeartbeats 8000000 in
theorem rdig_one (a : Option Addr) (c : Nat) (P : List (Value × List Nat)) (w : World) (hP : P.length = 1) (hL : LL w (.slice a 1 c) P) (h8 : ∀ x ∈ P, U8 x.2) (hl : ∀ x ∈ P, x.2.length ≤ 100000) : Calls Tryd.prog 27 #[.slice a 1 c] w fun e w' => e = .returned (.agg (bv (digL (P.map (·.2)))).toArray) ∧ Below w.heap.size w w' := by
  have hz := zero27
  generalize hZ : (bv (List.replicate 32 0)).toArray = Z at hz
  have HZE := hide hZ
  have HZS : Hid (Z.size = 32) := hide (by rw [← hZ, List.size_toArray, bv_len, List.length_replicate])
  have b1 : Below w.heap.size w (w.alloc (.cells Z 43)) := (Below.refl _ _).alloc (Nat.le_refl _) _
  have HR1 : Hid (RowAt (w.alloc (.cells Z 43)) w.heap.size 43 (bv (List.replicate 32 0))) := hide (hZ ▸ RowAt.new w 43 (bv (List.replicate 32 0)))
  have HB1 := hide b1
  obtain ⟨DD, hDD⟩ : ∃ D, digL (P.map (·.2)) = D := ⟨_, rfl⟩
  have dl : DD.length = 32 := by rw [← hDD]; exact digL_len _
  obtain ⟨EA, hEA⟩ : ∃ A, (bv DD).toArray = A := ⟨_, rfl⟩
  have HES : Hid (EA.size = 32) := hide (by rw [← hEA, List.size_toArray, bv_len, dl])
  have HEO : Hid (EA.all (·.oneCell') = true) := hide (hEA ▸ one_bv _)
  rw [hDD, hEA]
  obtain ⟨ad, rfl⟩ := hL.addr (by omega)
  obtain ⟨x, rfl⟩ := List.length_eq_one_iff.1 hP
  obtain ⟨a', c', h1, h2, h3⟩ := hL.call b1
  obtain ⟨ha, -, -⟩ : some ad = a' ∧ 1 = [x].length ∧ c = c' := by simpa using h1
  subst ha
  obtain ⟨⟨b, hb, hcell⟩, hY⟩ := h3 0 x.1 x.2 rfl
  obtain rfl := Option.some.inj hb
  have HC := hide (rleaf_any x.1 x.2 _ hY (h8 x (by simp)) (hl x (by simp)))
  have e0 : leafL x.2 = DD := by rw [← hDD, List.map_cons, List.map_nil, digL_one]
  rw [e0, hEA] at HC
  obtain ⟨xa, xc, hxv⟩ : ∃ a cap, x.1 = .slice a x.2.length cap := by
    rcases hY with ⟨h1, h2⟩ | ⟨a, cap, h1, _⟩
    · exact ⟨none, 0, by rw [h1, h2]; rfl⟩
    · exact ⟨_, _, h1⟩
  rw [hxv] at HC hcell
  have had : ad.add 0 = ad := by obtain ⟨b, o, s⟩ := ad; unfold Addr.add; cases s <;> simp
  rw [had] at hcell
  obtain ⟨xn, hxn⟩ : ∃ q, x.2.length = q := ⟨_, rfl⟩
  rw [hxn] at HC hcell
  clear b1 hZ hDD hEA dl hP e0 hL h8 hl h1 h2 h3 hY hxv hxn
  go_enter Tryd.func27, Tryd.ntmps27
  go_wp2_with fail
  generalize w.alloc (.cells Z 43) = w1 at *
  refine Calls.mono (unhide HC) ?_
  rintro e w5 ⟨rfl, b5⟩
  have HE2 := hide (((unhide HR1).below b5 (unhide HR1).lt).arr (unhide HZE))
  have HB5 := hide ((unhide HB1).trans (b5.mono (unhide HB1).size))
  clear b5
  go_wp2_with (refine wpList_store_row rfl 43 _ _ rfl w.heap.size EA rfl rfl 43 Z (unhide HE2) (by rw [z27, unhide HES]) (by rw [unhide HES, unhide HZS]) (unhide HEO) ?_)
  refine bodyPost_ret (results_cell_row Tryd.results27 _ _ w.heap.size 43 EA (0, 0) _ rfl (setRow_heap _ _ _ _ _ _ (unhide HE2)) Tryd.underlying43 rfl (by rw [z27, unhide HES])) rfl ⟨rfl, ?_⟩
  exact Below.trans (unhide HB5) ⟨rfl, rfl, rfl, by simp [World.setRow], fun k hk => setRow_other _ _ _ _ (by omega)⟩
set_option maxRecDepth 100000 in
set_option maxHeartbeats 8000000 in
theorem rdig_any : ∀ (n : Nat) (a : Option Addr) (c : Nat) (P : List (Value × List Nat)) (w : World), P.length = n → LL w (.slice a n c) P → (∀ x ∈ P, U8 x.2) → (∀ x ∈ P, x.2.length ≤ 100000) → n ≤ 1000 →
    Calls Tryd.prog 27 #[.slice a n c] w fun e w' => e = .returned (.agg (bv (digL (P.map (·.2)))).toArray) ∧ Below w.heap.size w w' := by
  intro n
  induction n using Nat.strongRecOn with
  | _ n ih =>
  intro a c P w hn hL h8 hl hN
  by_cases h0 : n = 0
  · subst h0; exact rdig_none a c P w hn
  by_cases h1 : n = 1
  · subst h1; exact rdig_one a c P w hn hL h8 hl
  have h2 : 2 ≤ n := by omega
  obtain ⟨ad, rfl⟩ := hL.addr (by omega)
  have hh := half_lt h2
  have hhp := half_pos n
  have hcn : n ≤ c := by
    obtain ⟨a', c', e1, e2, _⟩ := hL
    obtain ⟨-, -, rfl⟩ : some ad = a' ∧ n = P.length ∧ c = c' := by simpa using e1
    omega
  have HHF := hide (fun w => rhalf_any n w h2 (by omega))
  have e0 : digL (P.map (·.2)) = knotL (digL ((P.take (half n)).map (·.2))) (digL ((P.drop (half n)).map (·.2))) := by
    rw [digL_two (by rw [List.length_map]; omega), List.length_map, hn, List.map_take, List.map_drop]
  have HI1 := hide (p := ∀ W, Below w.heap.size w W → _) (fun W hW => ih (half n) hh (some ad) c (P.take (half n)) W (by rw [List.length_take]; omega) ((hL.take (by omega)).call hW) (fun x hx => h8 x (List.mem_of_mem_take hx)) (fun x hx => hl x (List.mem_of_mem_take hx)) (by omega))
  have HI2 := hide (p := ∀ W, Below w.heap.size w W → _) (fun W hW => ih (n - half n) (by omega) (some (ad.add (half n))) (c - half n) (P.drop (half n)) W (by rw [List.length_drop]; omega) ((hL.drop hh).call hW) (fun x hx => h8 x (List.mem_of_mem_drop hx)) (fun x hx => hl x (List.mem_of_mem_drop hx)) (by omega))
  have u1 := digL_8 ((P.take (half n)).map (·.2))
  have u2 := digL_8 ((P.drop (half n)).map (·.2))
  have l1 := digL_len ((P.take (half n)).map (·.2))
  have l2 := digL_len ((P.drop (half n)).map (·.2))
  obtain ⟨D1, hD1⟩ : ∃ D, digL ((P.take (half n)).map (·.2)) = D := ⟨_, rfl⟩
  obtain ⟨D2, hD2⟩ : ∃ D, digL ((P.drop (half n)).map (·.2)) = D := ⟨_, rfl⟩
  rw [hD1] at HI1 u1 l1 e0
  rw [hD2] at HI2 u2 l2 e0
  rw [e0]
  have HKN := hide (fun w' => rknot_any D1 D2 w' l1 l2 u1 u2)
  obtain ⟨A1, hA1⟩ : ∃ A, (bv D1).toArray = A := ⟨_, rfl⟩
  obtain ⟨A2, hA2⟩ : ∃ A, (bv D2).toArray = A := ⟨_, rfl⟩
  rw [hA1] at HI1 HKN
  rw [hA2] at HI2 HKN
  obtain ⟨DD, hDD⟩ : ∃ D, knotL D1 D2 = D := ⟨_, rfl⟩
  have dl : DD.length = 32 := by rw [← hDD]; exact knotL_len _ _
  obtain ⟨EA, hEA⟩ : ∃ A, (bv DD).toArray = A := ⟨_, rfl⟩
  have HES : Hid (EA.size = 32) := hide (by rw [← hEA, List.size_toArray, bv_len, dl])
  have HEO : Hid (EA.all (·.oneCell') = true) := hide (hEA ▸ one_bv _)
  rw [hDD, hEA] at HKN
  rw [hDD, hEA]
  have hz := zero27
  generalize hZ : (bv (List.replicate 32 0)).toArray = Z at hz
  have HZE := hide hZ
  have HZS : Hid (Z.size = 32) := hide (by rw [← hZ, List.size_toArray, bv_len, List.length_replicate])
  have b1 : Below w.heap.size w (w.alloc (.cells Z 43)) := (Below.refl _ _).alloc (Nat.le_refl _) _
  have HR1 : Hid (RowAt (w.alloc (.cells Z 43)) w.heap.size 43 (bv (List.replicate 32 0))) := hide (hZ ▸ RowAt.new w 43 (bv (List.replicate 32 0)))
  have HB1 := hide b1
  obtain ⟨k, hk⟩ : ∃ k, half n = k := ⟨_, rfl⟩
  rw [hk] at HHF HI1 HI2 hh hhp
  have n0 : ((n : Int) == 0) = false := beq_eq_false_iff_ne.2 (by omega)
  have n1 : ((n : Int) == 1) = false := beq_eq_false_iff_ne.2 (by omega)
  have q1 : (k : Int) ≤ (c : Int) := by omega
  have q2 : k ≤ c := by omega
  have q3 : ¬ c = k := by omega
  have q4 : (k : Int) ≤ (n : Int) := by omega
  have q5 : k ≤ n := by omega
  have nI : (n : Int) ≤ 1000 := by omega
  have q6 : (n : Int) ≤ (c : Int) := by omega
  have q7 : ((n : Int) - (k : Int)).toNat = n - k := by omega
  clear ih hL h8 hl hN h0 h1 h2 hh hhp hcn e0 hk hD1 hD2 hA1 hA2 hDD hEA dl u1 u2 l1 l2 hn b1 hZ
  go_enter Tryd.func27, Tryd.ntmps27
  go_wp2_with fail
  refine Calls.mono (unhide HHF _) ?_
  rintro e w2 ⟨rfl, rfl⟩
  generalize w.alloc (.cells Z 43) = w1 at *
  go_wp2_with fail
  refine wp_region_held_drew (S := fun _ => True) (by kernel_rfl) trivial (fun _ => ?_)
  refine wpAnyH_take (i := 0) (oi := { dst := some 18, op := Op.move (Operand.tmp 0), type := 35, pos := "ref.go:41", after := #[], guard := none }) (v := .slice (some ad) n c) rfl (by kernel_rfl) (by kernel_rfl) (by kernel_rfl) (fun _ _ _ h => h) (Or.inl ⟨by rfl, ?_⟩) trivial ?_
  · intro w hSw
    first
      | rfl
      | (go_simp; done)
  try simp only [Act.put, List.setIfInBounds_toArray, List.set_cons_zero, List.set_cons_succ]
  refine wpAnyH_take (i := 1) (oi := { dst := some 19, op := Op.move (Operand.tmp 3), type := 3, pos := "ref.go:41", after := #[], guard := none }) (v := .int .i64 (k : Int)) rfl (by kernel_rfl) (by kernel_rfl) (by kernel_rfl) (fun _ _ _ h => h) (Or.inl ⟨by rfl, ?_⟩) trivial ?_
  · intro w hSw
    first
      | rfl
      | (go_simp; done)
  try simp only [Act.put, List.setIfInBounds_toArray, List.set_cons_zero, List.set_cons_succ]
  refine wpAnyH_take (i := 2) (oi := { dst := some 20, op := Op.slice 35 (Operand.tmp 18) none (some (Operand.tmp 19)) none, type := 35, pos := "ref.go:41", after := #[{ on := 0, ground := Ground.data }, { on := 1, ground := Ground.data }], guard := none }) (v := .slice (some ad) k c) rfl (by kernel_rfl) (by kernel_rfl) (by kernel_rfl) (fun _ _ _ h => h) (Or.inl ⟨by rfl, ?_⟩) trivial ?_
  · intro w hSw
    first
      | rfl
      | (go_simp; done)
  try simp only [Act.put, List.setIfInBounds_toArray, List.set_cons_zero, List.set_cons_succ]
  refine wpAnyH_take (i := 4) (oi := { dst := some 22, op := Op.move (Operand.tmp 0), type := 35, pos := "ref.go:41", after := #[], guard := none }) (v := .slice (some ad) n c) rfl (by kernel_rfl) (by kernel_rfl) (by kernel_rfl) (fun _ _ _ h => h) (Or.inl ⟨by rfl, ?_⟩) trivial ?_
  · intro w hSw
    first
      | rfl
      | (go_simp; done)
  try simp only [Act.put, List.setIfInBounds_toArray, List.set_cons_zero, List.set_cons_succ]
  refine wpAnyH_take (i := 5) (oi := { dst := some 23, op := Op.move (Operand.tmp 3), type := 3, pos := "ref.go:41", after := #[], guard := none }) (v := .int .i64 (k : Int)) rfl (by kernel_rfl) (by kernel_rfl) (by kernel_rfl) (fun _ _ _ h => h) (Or.inl ⟨by rfl, ?_⟩) trivial ?_
  · intro w hSw
    first
      | rfl
      | (go_simp; done)
  try simp only [Act.put, List.setIfInBounds_toArray, List.set_cons_zero, List.set_cons_succ]
  refine wpAnyH_take (i := 6) (oi := { dst := some 24, op := Op.slice 35 (Operand.tmp 22) (some (Operand.tmp 23)) none none, type := 35, pos := "ref.go:41", after := #[{ on := 4, ground := Ground.data }, { on := 5, ground := Ground.data }], guard := none }) (v := .slice (some (ad.add k)) (n - k) (c - k)) rfl (by kernel_rfl) (by kernel_rfl) (by kernel_rfl) (fun _ _ _ h => h) (Or.inl ⟨by rfl, ?_⟩) trivial ?_
  · intro w hSw
    first
      | rfl
      | (go_simp; done)
  try simp only [Act.put, List.setIfInBounds_toArray, List.set_cons_zero, List.set_cons_succ]
  refine wpAnyH_ready (rs := [3]) (by kernel_rfl) (by simp) ?_
  refine AllReadyH.cons (o := { dst := some 21, op := Op.call { callee := Callee.value (Operand.func 27), args := #[Operand.tmp 20], argTypes := #[35] }, type := 43, pos := "ref.go:41", after := #[{ on := 2, ground := Ground.data }], guard := none }) rfl (fun K hK => ?_) AllReadyH.nil
  go_simp
  refine Calls.mono (unhide HI1 _ (unhide HB1).drew) ?_
  rintro e w3 ⟨rfl, b3⟩
  have HB3 := hide (bcall (unhide HB1).drew b3)
  have HR3 := hide ((unhide HR1).drew.below b3 (unhide HR1).drew.lt)
  clear b3 HI1
  go_wp2_with fail
  refine hK.out _ _ ?_ (fun _ => ?_)
  · trivial
  clear hK K
  try simp only [Act.put, List.setIfInBounds_toArray, List.set_cons_zero, List.set_cons_succ]
  refine wpAnyH_ready (rs := [7]) (by kernel_rfl) (by simp) ?_
  refine AllReadyH.cons (o := { dst := some 25, op := Op.call { callee := Callee.value (Operand.func 27), args := #[Operand.tmp 24], argTypes := #[35] }, type := 43, pos := "ref.go:41", after := #[{ on := 6, ground := Ground.data }, { on := 3, ground := Ground.chain }], guard := none }) rfl (fun K hK => ?_) AllReadyH.nil
  go_simp
  refine Calls.mono (unhide HI2 _ (unhide HB3)) ?_
  rintro e w4 ⟨rfl, b4⟩
  have HB4 := hide (bcall (unhide HB3) b4)
  have HR4 := hide ((unhide HR3).below b4 (unhide HR3).lt)
  clear b4 HI2
  go_wp2_with fail
  refine hK.out _ _ ?_ (fun _ => ?_)
  · trivial
  clear hK K
  try simp only [Act.put, List.setIfInBounds_toArray, List.set_cons_zero, List.set_cons_succ]
  refine wpAnyH_ready (rs := [8]) (by kernel_rfl) (by simp) ?_
  refine AllReadyH.cons (o := { dst := some 26, op := Op.call { callee := Callee.value (Operand.func 52), args := #[Operand.tmp 21, Operand.tmp 25], argTypes := #[43, 43] }, type := 43, pos := "ref.go:41", after := #[{ on := 3, ground := Ground.data }, { on := 7, ground := Ground.data }, { on := 7, ground := Ground.chain }], guard := none }) rfl (fun K hK => ?_) AllReadyH.nil
  go_simp
  refine Calls.mono (unhide HKN _) ?_
  rintro e w5 ⟨rfl, b5⟩
  have HB5 := hide (bcall (unhide HB4) b5)
  have HE2 := hide (((unhide HR4).below b5 (unhide HR4).lt).arr (unhide HZE))
  clear b5 HKN
  go_wp2_with fail
  refine hK.out _ _ ?_ (fun _ => ?_)
  · trivial
  clear hK K
  try simp only [Act.put, List.setIfInBounds_toArray, List.set_cons_zero, List.set_cons_succ]
  refine wpAnyH_ready (rs := [9]) (by kernel_rfl) (by simp) ?_
  refine AllReadyH.cons (o := { dst := none, op := Op.store 43 (Operand.tmp 2) (Operand.tmp 26), type := 0, pos := "ref.go:41", after := #[{ on := 8, ground := Ground.data }, { on := 8, ground := Ground.chain }, { on := 0, ground := Ground.phase }, { on := 1, ground := Ground.phase }, { on := 2, ground := Ground.phase }, { on := 3, ground := Ground.phase }, { on := 4, ground := Ground.phase }, { on := 5, ground := Ground.phase }, { on := 6, ground := Ground.phase }, { on := 7, ground := Ground.phase }, { on := 8, ground := Ground.phase }], guard := none }) rfl (fun K hK => ?_) AllReadyH.nil
  rw [if_pos (by rfl)]
  refine wp_store_row 43 _ _ rfl w.heap.size EA rfl rfl 43 Z (unhide HE2) (by rw [z27, unhide HES]) (by rw [unhide HES, unhide HZS]) (unhide HEO) ?_
  refine hK.out _ _ ?_ (fun _ => ?_)
  · trivial
  clear hK K
  try simp only [Act.put, List.setIfInBounds_toArray, List.set_cons_zero, List.set_cons_succ]
  refine wpAnyH_done (by kernel_rfl) ?_ _
  go_wp2_with fail
  refine bodyPost_ret (results_cell_row Tryd.results27 _ _ w.heap.size 43 EA (0, 0) _ rfl (setRow_heap _ _ _ _ _ _ (unhide HE2)) Tryd.underlying43 rfl (by rw [z27, unhide HES])) rfl ⟨rfl, ?_⟩
  exact Below.trans (unhide HB5) ⟨rfl, rfl, rfl, by simp [World.setRow], fun k hk => setRow_other _ _ _ _ (by omega)⟩
end Go.Proofs.YtonkgiiacholeaaDoor
