/- For any two lists of entries and any number the Go function sealskinlaw15.AuditStays returns true, and its arguments read as they did. No condition. -/
import Derived.Test.YtonkgiiacholeaaDoorAGAll
import Derived.Test.YtonkgiiacholeaaDoorAHld0
import Derived.Test.YtonkgiiacholeaaDoorARDg
namespace Go.Proofs.YtonkgiiacholeaaDoor.astays
set_option linter.unusedVariables false
set_option linter.unusedSimpArgs false
open Go.ChangeShapes Go.WideShapes Go.ChangeAt Go.RowKit Go.Joins Go.Deep

set_option maxRecDepth 100000 in
set_option maxHeartbeats 8000000 in
theorem grown_bad (g : Nat) (E : List (List Nat)) (τ : Nat → Int) (i n : Int) (w : World) (hL : LogAt w τ g E) (hE : E.length ≤ 1000) (hb : i < 1 ∨ n < i ∨ (E.length : Int) < n) :
    Calls Tryd.prog 36 #[.pointer (some ⟨g, 0, none⟩), .int .i64 i, .int .i64 n] w fun e w' => e = .returned (.tuple #[.slice none 0 0, .int .i64 1]) ∧ w = w' := by
  have HM := hide (let ⟨ev, hv, h⟩ := hL.row; lmade_any g true ev hv _ h)
  have HLN := hide (len_log g E τ _ hL)
  obtain ⟨m, hm⟩ : ∃ m, E.length = m := ⟨_, rfl⟩
  rw [hm] at hb HLN hE
  have m1 : (m : Int) ≤ 1000 := by omega
  clear hL hm hE
  by_cases c1 : i < 1
  · clear hb
    go_enter Tryd.func36, Tryd.ntmps36
    go_wp2_with fail
    refine Calls.mono (unhide HM) ?_
    rintro e w2 ⟨rfl, rfl⟩
    go_wp2_with fail
    go_ret2
    exact ⟨rfl, rfl⟩
  by_cases c2 : n < i
  · clear hb
    go_enter Tryd.func36, Tryd.ntmps36
    go_wp2_with fail
    refine Calls.mono (unhide HM) ?_
    rintro e w2 ⟨rfl, rfl⟩
    go_wp2_with fail
    go_ret2
    exact ⟨rfl, rfl⟩
  · have c3 : (m : Int) < n := by omega
    have c4 : i ≤ n := by omega
    clear hb
    go_enter Tryd.func36, Tryd.ntmps36
    go_wp2_with fail
    refine Calls.mono (unhide HM) ?_
    rintro e w2 ⟨rfl, rfl⟩
    go_wp2_with fail
    refine Calls.mono (unhide HLN) ?_
    rintro e w2 ⟨rfl, rfl⟩
    go_wp2_with fail
    go_ret2
    exact ⟨rfl, rfl⟩
theorem LL.block {w : World} {v : Value} {P : List (Value × List Nat)} (h : LL w v P) (hP : P ≠ []) : ∀ k, v.ownBlock = some k → k < w.heap.size := by
  intro k hk
  obtain ⟨a, cap, rfl, hc, h1⟩ := h
  cases P with
  | nil => exact absurd rfl hP
  | cons x P =>
    obtain ⟨⟨b, rfl, h2⟩, -⟩ := h1 0 x.1 x.2 rfl
    have := World.block_lt_of_cell? _ _ h2
    rw [Addr.add, if_pos rfl] at this
    have e : b.block = k := by simpa [Value.ownBlock] using hk
    omega
set_option maxRecDepth 100000 in
set_option maxHeartbeats 8000000 in
theorem walk (P : List (Value × List Nat)) (a : Option Addr) (n c : Nat) (P2 : List (Value × List Nat)) (a2 : Option Addr) (n2 c2 : Nat) (k : Int) (w : World) (hT : Tabs w) (hn : P.length = n) (hL : LL w (.slice a n c) P) (h8 : ∀ x ∈ P, U8 x.2) (hn2 : P2.length = n2) (hL2 : LL w (.slice a2 n2 c2) P2) (h82 : ∀ x ∈ P2, U8 x.2) :
    Calls Tryd.prog 11 #[.slice a n c, .slice a2 n2 c2, .int .i64 k] w fun e w' => e = .returned (.bool true) ∧ Below w.heap.size w w' := by
  have HSH := hide (short_any P a n c w hn hL)
  have HSH2 := hide (short_any P2 a2 n2 c2 w hn2 hL2)
  have HAW := hide (aawake_any w hT)
  have HT := hide hT
  have HL := hide hL
  have H8 := hide h8
  have HN := hide hn
  have HL2 := hide hL2
  have H82 := hide h82
  have HN2 := hide hn2
  clear hT hL h8 hL2 h82
  go_enter Tryd.func11, Tryd.ntmps11
  go_wp2_with fail
  refine Calls.mono (unhide HSH) ?_
  rintro e w1 ⟨b, rfl, rfl, hb⟩
  clear HSH
  cases b with
  | false =>
    clear hb
    go_wp2_with fail
    refine Calls.mono (unhide HAW) ?_
    rintro e w9 ⟨rfl, b9⟩
    have HF := hide b9
    clear b9
    go_wp2_with fail
    go_ret
    exact ⟨rfl, unhide HF⟩
  | true =>
    obtain ⟨n40, lens⟩ := hb rfl
    have n40I : (n : Int) ≤ 40 := by omega
    have HLN := hide lens
    clear hb lens
    go_wp2_with fail
    refine Calls.mono (unhide HSH2) ?_
    rintro e w1 ⟨b, rfl, rfl, hb⟩
    clear HSH2
    cases b with
    | false =>
      clear hb
      go_wp2_with fail
      refine Calls.mono (unhide HAW) ?_
      rintro e w9 ⟨rfl, b9⟩
      have HF := hide b9
      clear b9
      go_wp2_with fail
      go_ret
      exact ⟨rfl, unhide HF⟩
    | true =>
    obtain ⟨n240, lens2⟩ := hb rfl
    have n240I : (n2 : Int) ≤ 40 := by omega
    have HLN2 := hide lens2
    clear hb lens2
    obtain ⟨j, hj, hj2⟩ := mod_nat k (n + 1) (by omega) (by omega)
    rw [show ((n + 1 : Nat) : Int) = (n : Int) + 1 by omega] at hj
    have jn : j ≤ n := by omega
    have HJN := hide jn
    have nz : ¬ (n : Int) + 1 = 0 := by omega
    have HMD := hide (made_log P _ w (unhide HT) (unhide HL) (unhide H8) (fun x hx => Nat.le_trans (unhide HLN x hx) (by decide)) (by omega))
    obtain ⟨N, hNN⟩ : ∃ N, n + n2 = N := ⟨_, rfl⟩
    have hNI : (n : Int) + (n2 : Int) = (N : Int) := by omega
    have hN80 : (N : Int) ≤ 80 := by omega
    have hwN : IntKind.i64.wrap (N : Int) = (N : Int) := by unfold IntKind.wrap; simp [IntKind.bits, IntKind.signed]; omega
    have hz := zero27
    obtain ⟨Z, hZ⟩ : ∃ Z, (bv (List.replicate 32 0)).toArray = Z := ⟨_, rfl⟩
    rw [hZ] at hz
    have HZS : Hid (Z.size = 32) := hide (by rw [← hZ, List.size_toArray, bv_len, List.length_replicate])
    have dl := digL_len ((P.map (·.2)).take j)
    have hq := eq_sums _ _ dl dl
    rw [decide_eq_true rfl] at hq
    obtain ⟨D, hD⟩ : ∃ D, digL ((P.map (·.2)).take j) = D := ⟨_, rfl⟩
    rw [hD] at dl hq
    obtain ⟨X, hX⟩ : ∃ X, bv D = X := ⟨_, rfl⟩
    rw [hX] at hq
    have HX := hide hX
    have hXs : X.length = 32 := by rw [← hX, bv_len, dl]
    have HXS : Hid (X.toArray.size = 32) := hide (by rw [List.size_toArray, hXs])
    have HXO : Hid (X.toArray.all (·.oneCell') = true) := hide (hX ▸ one_bv _)
    have hi : (Tryd.prog.info? 43).map (·.size) = some X.length := hX ▸ size43 dl
    have hu := Tryd.underlying43
    obtain ⟨E', hE'⟩ : ∃ E', P.map (·.2) ++ P2.map (·.2) = E' := ⟨_, rfl⟩
    have HEL : Hid (E'.length = N) := hide (by rw [← hE', List.length_append, List.length_map, List.length_map, hn, hn2, hNN])
    have HEN : Hid (E'.take n = P.map (·.2)) := hide (by rw [← hE', List.take_append_of_le_length (by rw [List.length_map, hn]; omega), List.take_of_length_le (by rw [List.length_map, hn]; omega)])
    have HDJ : Hid (digL (E'.take j) = D) := hide (by rw [← hE', List.take_append_of_le_length (by rw [List.length_map, hn]; omega), hD])
    go_wp2_with fail
    refine Calls.mono (unhide HMD) ?_
    rintro e w2 ⟨rfl, τ, L2, ht2, b2⟩
    have HRT := hide (root_ok w.heap.size (P.map (·.2)) τ j w2 ((unhide HT).below b2) L2 (by rw [List.length_map]; omega) (by rw [List.length_map]; omega))
    rw [hD, hX] at HRT
    have HB2 := hide b2
    have HTG := hide (And.intro L2 ht2)
    clear b2 L2 ht2 HMD
    go_wp2_with fail
    refine Calls.mono (unhide HRT) ?_
    rintro e w3 ⟨rfl, b3⟩
    have b3a : Below w2.heap.size w2 (w3.alloc (.cells X.toArray 43)) := bal b3 _
    have B4 := bcall (unhide HB2) b3a
    obtain ⟨L2, ht2⟩ := unhide HTG
    have L4 : LogAt (w3.alloc (.cells X.toArray 43)) (fun q => if q < w2.heap.size then τ q else -1) w.heap.size (P.map (·.2)) := (L2.retag (fun q hq => if_pos hq)).call b3a
    have hlow : ∀ q, q < w.heap.size → ¬ ((if q < w2.heap.size then τ q else -1) ≠ -1) := fun q hq => by
      by_cases e2 : q < w2.heap.size
      · rw [if_pos e2, ht2 q hq]; simp
      · rw [if_neg e2]; simp
    have HGE : Hid (∀ q, (if q < w2.heap.size then τ q else -1) ≠ -1 → w.heap.size ≤ q) := hide (fun q hq => by
      by_cases e : q < w.heap.size
      · exact absurd hq (hlow q e)
      · omega)
    have HAD := hide (add_log w.heap.size _ (fun q => if q < w2.heap.size then τ q else -1) P2 (.slice a2 n2 c2) (w3.alloc (.cells X.toArray 43)) ((unhide HT).below B4) (fun q hq => by
        have h7 := (unhide HT).two
        have := unhide HGE q hq
        omega) L4 ((unhide HL2).call B4) ⟨fun hne q hq => hlow q (LL.block (unhide HL2) hne q hq), fun x hx hne q hq => hlow q (byt_block ((unhide HL2).each x hx) hne q hq)⟩ (unhide H82) (fun x hx => Nat.le_trans (unhide HLN2 x hx) (by decide)) (by rw [List.length_map]; omega))
    rw [hE'] at HAD
    have HR8 : Hid (RowAt (w3.alloc (.cells X.toArray 43)) w3.heap.size 43 X) := hide (RowAt.new w3 43 X)
    have HG8 : Hid (¬ (if w3.heap.size < w2.heap.size then τ w3.heap.size else -1) ≠ -1) := hide (by rw [if_neg (by have := b3.size; omega)]; simp)
    have HB4 := hide B4
    clear b3 b3a B4 L2 ht2 L4 hlow HTG HRT
    go_wp2_with (refine wpList_store_new rfl 43 _ _ rfl X.toArray rfl rfl (by rw [z27, unhide HXS]) (by rw [unhide HXS, unhide HZS]) (unhide HXO) ?_)
    obtain ⟨g8, hg8⟩ : ∃ q, w3.heap.size = q := ⟨_, rfl⟩
    rw [hg8] at HR8 HG8 ⊢
    generalize w3.alloc (.cells X.toArray 43) = w4 at *
    refine Calls.mono (unhide HAD) ?_
    rintro e w5 ⟨rfl, τ5, L5, _, o5⟩
    have HB5 := hide ((unhide HB4).trans (o5.below (unhide HB4).size (unhide HGE)))
    have HR85 := hide ((unhide HR8).only o5 (unhide HG8))
    have HL5 := hide L5
    have HLE5 := hide (len_log w.heap.size E' τ5 w5 L5)
    rw [unhide HEL] at HLE5
    clear L5 o5 HAD HGE HG8 HR8 HB4 hg8 hD hX hXs dl hE' hZ
    by_cases hn0 : n = 0
    · by_cases hn20 : n2 = 0
      · have hm1 : max (n : Int) 1 = 1 := by omega
        have nn : ¬ (0 : Int) < (n : Int) := by omega
        have HGB := hide (grown_bad w.heap.size E' τ5 1 (N : Int) w5 (unhide HL5) (by have := unhide HEL; omega) (by omega))
        have nN : ¬ (0 : Int) < (N : Int) := by omega
        clear hNN hn0 hn20
        go_wp2_with fail
        refine Calls.mono (unhide HLE5) ?_
        rintro e wx ⟨rfl, rfl⟩
        go_wp2_with fail
        refine Calls.mono (unhide HGB) ?_
        rintro e wx ⟨rfl, rfl⟩
        go_wp2_with fail
        refine Calls.mono (unhide HLE5) ?_
        rintro e wx ⟨rfl, rfl⟩
        go_wp2_with fail
        have HB7 := HB5
        have HL7 := HL5
        have HR8z := HR85
        clear HB5 HL5 HR85 HLE5 HGB
        generalize w5 = w7 at *
        have hst : KB w7 w7 g8 X := ⟨(unhide HR8z).range, Below.refl _ _⟩
        have hk0 : Below w7.heap.size w7 w7.drew := (Below.refl _ _).drew
        have KRT := hide (p := ∀ W, Below w7.heap.size w7 W → _) (fun W hW => root_ok w.heap.size E' τ5 j W ((unhide HT).below (bcall (unhide HB7) hW)) ((unhide HL7).call hW) (by have := unhide HEL; omega) (by have := unhide HEL; have := unhide HJN; omega))
        rw [unhide HDJ, unhide HX] at KRT
        have KLE := hide (p := ∀ W, Below w7.heap.size w7 W → _) (fun W hW => len_log w.heap.size E' τ5 W ((unhide HL7).call hW))
        rw [unhide HEL] at KLE
        have KAW := hide (p := ∀ W, Below w7.heap.size w7 W → _) (fun W hW => aawake_any W ((unhide HT).below (bcall (unhide HB7) hW)))
        clear HL7 HR8z
        refine wp_region_held_drew (S := fun w' => KB w7 w' g8 X) (by kernel_rfl) (KB.call hst hk0) (fun hHeld => ?_)
        refine wpAnyH_take (i := 0) (oi := { dst := some 73, op := Op.move (Operand.tmp 7), type := 38, pos := "law.go:161", after := #[], guard := none }) (v := .pointer (some ⟨w.heap.size, 0, none⟩)) rfl (by kernel_rfl) (by kernel_rfl) (by kernel_rfl) (fun _ _ _ h => h) (Or.inl ⟨by rfl, ?_⟩) hHeld ?_
        · intro w hSw
          first
            | rfl
            | (go_simp; done)
        try simp only [Act.put, List.setIfInBounds_toArray, List.set_cons_zero, List.set_cons_succ]
        refine wpAnyH_take (i := 1) (oi := { dst := some 74, op := Op.move (Operand.tmp 2), type := 3, pos := "law.go:161", after := #[], guard := none }) (v := .int .i64 (j : Int)) rfl (by kernel_rfl) (by kernel_rfl) (by kernel_rfl) (fun _ _ _ h => h) (Or.inl ⟨by rfl, ?_⟩) hHeld ?_
        · intro w hSw
          first
            | rfl
            | (go_simp; done)
        try simp only [Act.put, List.setIfInBounds_toArray, List.set_cons_zero, List.set_cons_succ]
        refine wpAnyH_take (i := 3) (oi := { dst := some 76, op := Op.load 43 (Operand.tmp 8), type := 43, pos := "law.go:161", after := #[], guard := none }) (v := .agg X.toArray) rfl (by kernel_rfl) (by kernel_rfl) (by kernel_rfl) (fun _ _ _ h => h)
          (yieldsIf_load_mid (by rfl) _ _ rfl g8 0 rfl X _ (fun w h => h.1) Tryd.underlying43 rfl hi) hHeld ?_
        try simp only [Act.put, List.setIfInBounds_toArray, List.set_cons_zero, List.set_cons_succ]
        refine wpAnyH_ready (rs := [2]) (by kernel_rfl) (by simp) ?_
        refine AllReadyH.cons (o := { dst := some 75, op := Op.call { callee := Callee.value (Operand.func 30), args := #[Operand.tmp 73, Operand.tmp 74], argTypes := #[38, 3] }, type := 43, pos := "law.go:161", after := #[{ on := 0, ground := Ground.data }, { on := 1, ground := Ground.data }], guard := none }) rfl (fun K hK => ?_) AllReadyH.nil
        go_simp
        refine Calls.mono (unhide KRT _ hk0) ?_
        rintro e w8 ⟨rfl, b8⟩
        have k8 := bcall hk0 b8
        go_wp2_with fail
        refine hK.out _ _ ?_ (fun hHeld => ?_)
        · exact KB.call hst k8
        clear hK K
        try simp only [Act.put, List.setIfInBounds_toArray, List.set_cons_zero, List.set_cons_succ]
        refine wpAnyH_take (i := 4) (oi := { dst := some 77, op := Op.binOp BinOp.eql 43 (Operand.tmp 75) (Operand.tmp 76) 43, type := 4, pos := "law.go:161", after := #[{ on := 2, ground := Ground.data }, { on := 3, ground := Ground.data }], guard := none }) (v := .bool true) rfl (by kernel_rfl) (by kernel_rfl) (by kernel_rfl) (fun _ _ _ h => h) (Or.inl ⟨by rfl, ?_⟩) hHeld ?_
        · intro w hSw
          first
            | rfl
            | (go_simp; done)
        try simp only [Act.put, List.setIfInBounds_toArray, List.set_cons_zero, List.set_cons_succ]
        refine wpAnyH_take (i := 5) (oi := { dst := some 78, op := Op.move (Operand.tmp 77), type := 4, pos := "law.go:161", after := #[{ on := 4, ground := Ground.data }, { on := 2, ground := Ground.chain }], guard := none }) (v := .bool true) rfl (by kernel_rfl) (by kernel_rfl) (by kernel_rfl) (fun _ _ _ h => h) (Or.inl ⟨by rfl, ?_⟩) hHeld ?_
        · intro w hSw
          first
            | rfl
            | (go_simp; done)
        try simp only [Act.put, List.setIfInBounds_toArray, List.set_cons_zero, List.set_cons_succ]
        refine wpAnyH_take (i := 6) (oi := { dst := some 79, op := Op.move (Operand.tmp 7), type := 38, pos := "law.go:161", after := #[{ on := 5, ground := Ground.guard }], guard := some (5, true) }) (v := .pointer (some ⟨w.heap.size, 0, none⟩)) rfl (by kernel_rfl) (by kernel_rfl) (by kernel_rfl) (fun _ _ _ h => h) (Or.inl ⟨by rfl, ?_⟩) hHeld ?_
        · intro w hSw
          first
            | rfl
            | (go_simp; done)
        try simp only [Act.put, List.setIfInBounds_toArray, List.set_cons_zero, List.set_cons_succ]
        refine wpAnyH_take (i := 8) (oi := { dst := some 81, op := Op.move (Operand.tmp 0), type := 35, pos := "law.go:161", after := #[{ on := 5, ground := Ground.guard }], guard := some (5, true) }) (v := .slice a n c) rfl (by kernel_rfl) (by kernel_rfl) (by kernel_rfl) (fun _ _ _ h => h) (Or.inl ⟨by rfl, ?_⟩) hHeld ?_
        · intro w hSw
          first
            | rfl
            | (go_simp; done)
        try simp only [Act.put, List.setIfInBounds_toArray, List.set_cons_zero, List.set_cons_succ]
        refine wpAnyH_take (i := 9) (oi := { dst := some 82, op := Op.call { callee := Callee.builtin Builtin.len, args := #[Operand.tmp 81], argTypes := #[35] }, type := 3, pos := "law.go:161", after := #[{ on := 8, ground := Ground.data }, { on := 5, ground := Ground.guard }], guard := some (5, true) }) (v := .int .i64 (n : Int)) rfl (by kernel_rfl) (by kernel_rfl) (by kernel_rfl) (fun _ _ _ h => h) (Or.inl ⟨by rfl, ?_⟩) hHeld ?_
        · intro w hSw
          first
            | rfl
            | (go_simp; done)
        try simp only [Act.put, List.setIfInBounds_toArray, List.set_cons_zero, List.set_cons_succ]
        refine wpAnyH_take (i := 10) (oi := { dst := some 83, op := Op.move (Operand.tmp 1), type := 35, pos := "law.go:161", after := #[{ on := 5, ground := Ground.guard }], guard := some (5, true) }) (v := .slice a2 n2 c2) rfl (by kernel_rfl) (by kernel_rfl) (by kernel_rfl) (fun _ _ _ h => h) (Or.inl ⟨by rfl, ?_⟩) hHeld ?_
        · intro w hSw
          first
            | rfl
            | (go_simp; done)
        try simp only [Act.put, List.setIfInBounds_toArray, List.set_cons_zero, List.set_cons_succ]
        refine wpAnyH_take (i := 11) (oi := { dst := some 84, op := Op.call { callee := Callee.builtin Builtin.len, args := #[Operand.tmp 83], argTypes := #[35] }, type := 3, pos := "law.go:161", after := #[{ on := 10, ground := Ground.data }, { on := 5, ground := Ground.guard }], guard := some (5, true) }) (v := .int .i64 (n2 : Int)) rfl (by kernel_rfl) (by kernel_rfl) (by kernel_rfl) (fun _ _ _ h => h) (Or.inl ⟨by rfl, ?_⟩) hHeld ?_
        · intro w hSw
          first
            | rfl
            | (go_simp; done)
        try simp only [Act.put, List.setIfInBounds_toArray, List.set_cons_zero, List.set_cons_succ]
        refine wpAnyH_take (i := 12) (oi := { dst := some 85, op := Op.binOp BinOp.add 3 (Operand.tmp 82) (Operand.tmp 84) 3, type := 3, pos := "law.go:161", after := #[{ on := 9, ground := Ground.data }, { on := 11, ground := Ground.data }, { on := 5, ground := Ground.guard }], guard := some (5, true) }) (v := .int .i64 (N : Int)) rfl (by kernel_rfl) (by kernel_rfl) (by kernel_rfl) (fun _ _ _ h => h) (Or.inl ⟨by rfl, ?_⟩) hHeld ?_
        · intro w hSw
          first
            | rfl
            | (go_simp; done)
        try simp only [Act.put, List.setIfInBounds_toArray, List.set_cons_zero, List.set_cons_succ]
        refine wpAnyH_ready (rs := [7]) (by kernel_rfl) (by simp) ?_
        refine AllReadyH.cons (o := { dst := some 80, op := Op.call { callee := Callee.value (Operand.func 26), args := #[Operand.tmp 79], argTypes := #[38] }, type := 3, pos := "law.go:161", after := #[{ on := 6, ground := Ground.data }, { on := 5, ground := Ground.chain }, { on := 5, ground := Ground.guard }], guard := some (5, true) }) rfl (fun K hK => ?_) AllReadyH.nil
        go_simp
        refine Calls.mono (unhide KLE _ k8) ?_
        rintro e w9 ⟨rfl, rfl⟩
        go_wp2_with fail
        refine hK.out _ _ ?_ (fun hHeld => ?_)
        · exact KB.call hst k8
        clear hK K
        try simp only [Act.put, List.setIfInBounds_toArray, List.set_cons_zero, List.set_cons_succ]
        refine wpAnyH_take (i := 13) (oi := { dst := some 86, op := Op.binOp BinOp.eql 3 (Operand.tmp 80) (Operand.tmp 85) 3, type := 4, pos := "law.go:161", after := #[{ on := 7, ground := Ground.data }, { on := 12, ground := Ground.data }, { on := 5, ground := Ground.guard }], guard := some (5, true) }) (v := .bool true) rfl (by kernel_rfl) (by kernel_rfl) (by kernel_rfl) (fun _ _ _ h => h) (Or.inl ⟨by rfl, ?_⟩) hHeld ?_
        · intro w hSw
          first
            | rfl
            | (go_simp; done)
        try simp only [Act.put, List.setIfInBounds_toArray, List.set_cons_zero, List.set_cons_succ]
        refine wpAnyH_take (i := 14) (oi := { dst := some 87, op := Op.pick (Operand.tmp 78) (Operand.tmp 86) (Operand.const (Value.bool false)), type := 4, pos := "law.go:161", after := #[{ on := 5, ground := Ground.data }, { on := 13, ground := Ground.data }], guard := none }) (v := .bool true) rfl (by kernel_rfl) (by kernel_rfl) (by kernel_rfl) (fun _ _ _ h => h) (Or.inl ⟨by rfl, ?_⟩) hHeld ?_
        · intro w hSw
          first
            | rfl
            | (go_simp; done)
        try simp only [Act.put, List.setIfInBounds_toArray, List.set_cons_zero, List.set_cons_succ]
        refine wpAnyH_take (i := 15) (oi := { dst := some 88, op := Op.move (Operand.tmp 87), type := 4, pos := "law.go:161", after := #[{ on := 14, ground := Ground.data }, { on := 7, ground := Ground.chain }], guard := none }) (v := .bool true) rfl (by kernel_rfl) (by kernel_rfl) (by kernel_rfl) (fun _ _ _ h => h) (Or.inl ⟨by rfl, ?_⟩) hHeld ?_
        · intro w hSw
          first
            | rfl
            | (go_simp; done)
        try simp only [Act.put, List.setIfInBounds_toArray, List.set_cons_zero, List.set_cons_succ]
        refine wpAnyH_ready (rs := [16]) (by kernel_rfl) (by simp) ?_
        refine AllReadyH.cons (o := { dst := some 89, op := Op.call { callee := Callee.value (Operand.func 21), args := #[], argTypes := #[] }, type := 4, pos := "law.go:161", after := #[{ on := 15, ground := Ground.chain }, { on := 15, ground := Ground.guard }], guard := some (15, true) }) rfl (fun K hK => ?_) AllReadyH.nil
        go_simp
        refine Calls.mono (unhide KAW _ k8) ?_
        rintro e w9 ⟨rfl, b9⟩
        have k9 := bcall k8 b9
        go_wp2_with fail
        refine hK.out _ _ ?_ (fun hHeld => ?_)
        · exact KB.call hst k9
        clear hK K
        try simp only [Act.put, List.setIfInBounds_toArray, List.set_cons_zero, List.set_cons_succ]
        refine wpAnyH_take (i := 17) (oi := { dst := some 90, op := Op.pick (Operand.tmp 88) (Operand.tmp 89) (Operand.const (Value.bool false)), type := 4, pos := "law.go:161", after := #[{ on := 15, ground := Ground.data }, { on := 16, ground := Ground.data }], guard := none }) (v := .bool true) rfl (by kernel_rfl) (by kernel_rfl) (by kernel_rfl) (fun _ _ _ h => h) (Or.inl ⟨by rfl, ?_⟩) hHeld ?_
        · intro w hSw
          first
            | rfl
            | (go_simp; done)
        try simp only [Act.put, List.setIfInBounds_toArray, List.set_cons_zero, List.set_cons_succ]
        refine wpAnyH_take (i := 18) (oi := { dst := some 6, op := Op.assign (Operand.tmp 90), type := 4, pos := "law.go:161", after := #[{ on := 17, ground := Ground.data }, { on := 16, ground := Ground.chain }, { on := 0, ground := Ground.phase }, { on := 1, ground := Ground.phase }, { on := 2, ground := Ground.phase }, { on := 3, ground := Ground.phase }, { on := 4, ground := Ground.phase }, { on := 5, ground := Ground.phase }, { on := 6, ground := Ground.phase }, { on := 7, ground := Ground.phase }, { on := 8, ground := Ground.phase }, { on := 9, ground := Ground.phase }, { on := 10, ground := Ground.phase }, { on := 11, ground := Ground.phase }, { on := 12, ground := Ground.phase }, { on := 13, ground := Ground.phase }, { on := 14, ground := Ground.phase }, { on := 15, ground := Ground.phase }, { on := 16, ground := Ground.phase }, { on := 17, ground := Ground.phase }], guard := none }) (v := .bool true) rfl (by kernel_rfl) (by kernel_rfl) (by kernel_rfl) (fun _ _ _ h => h) (Or.inl ⟨by rfl, ?_⟩) hHeld ?_
        · intro w hSw
          first
            | rfl
            | (go_simp; done)
        try simp only [Act.put, List.setIfInBounds_toArray, List.set_cons_zero, List.set_cons_succ]
        refine wpAnyH_done (by kernel_rfl) ?_ _
        go_wp2_with fail
        go_ret
        exact ⟨by first | rfl | kernel_rfl, bcall (unhide HB7) k9⟩
      · have hm1 : max (n : Int) 1 = 1 := by omega
        have nn : ¬ (0 : Int) < (n : Int) := by omega
        have HGB := hide (grown_log w.heap.size E' τ5 1 N w5 ((unhide HT).below (unhide HB5)) (unhide HL5) (by have := unhide HEL; omega) (by omega) (by omega) (by have := unhide HEL; omega))
        rw [show ((1 : Nat) : Int) = 1 from rfl] at HGB
        have nN : (0 : Int) < (N : Int) := by omega
        clear hNN hn0 hn20
        go_wp2_with fail
        refine Calls.mono (unhide HLE5) ?_
        rintro e wx ⟨rfl, rfl⟩
        go_wp2_with fail
        refine Calls.mono (unhide HGB) ?_
        rintro e w6 ⟨gv, rfl, b6, S6⟩
        obtain ⟨ga, gc, hgv, _⟩ := own_shape S6.1
        subst hgv
        have HLE6 := hide (len_log w.heap.size E' τ5 w6 ((unhide HL5).call b6))
        rw [unhide HEL] at HLE6
        have HB7 := hide (bcall (unhide HB5) b6)
        have HL7 := hide ((unhide HL5).call b6)
        have HR8z := hide ((unhide HR85).below b6 (unhide HR85).lt)
        clear b6 S6 HB5 HL5 HR85 HLE5 HGB
        go_wp2_with fail
        refine Calls.mono (unhide HLE6) ?_
        rintro e wx ⟨rfl, rfl⟩
        go_wp2_with fail
        clear HLE6
        generalize w6 = w7 at *
        have hst : KB w7 w7 g8 X := ⟨(unhide HR8z).range, Below.refl _ _⟩
        have hk0 : Below w7.heap.size w7 w7.drew := (Below.refl _ _).drew
        have KRT := hide (p := ∀ W, Below w7.heap.size w7 W → _) (fun W hW => root_ok w.heap.size E' τ5 j W ((unhide HT).below (bcall (unhide HB7) hW)) ((unhide HL7).call hW) (by have := unhide HEL; omega) (by have := unhide HEL; have := unhide HJN; omega))
        rw [unhide HDJ, unhide HX] at KRT
        have KLE := hide (p := ∀ W, Below w7.heap.size w7 W → _) (fun W hW => len_log w.heap.size E' τ5 W ((unhide HL7).call hW))
        rw [unhide HEL] at KLE
        have KAW := hide (p := ∀ W, Below w7.heap.size w7 W → _) (fun W hW => aawake_any W ((unhide HT).below (bcall (unhide HB7) hW)))
        clear HL7 HR8z
        refine wp_region_held_drew (S := fun w' => KB w7 w' g8 X) (by kernel_rfl) (KB.call hst hk0) (fun hHeld => ?_)
        refine wpAnyH_take (i := 0) (oi := { dst := some 73, op := Op.move (Operand.tmp 7), type := 38, pos := "law.go:161", after := #[], guard := none }) (v := .pointer (some ⟨w.heap.size, 0, none⟩)) rfl (by kernel_rfl) (by kernel_rfl) (by kernel_rfl) (fun _ _ _ h => h) (Or.inl ⟨by rfl, ?_⟩) hHeld ?_
        · intro w hSw
          first
            | rfl
            | (go_simp; done)
        try simp only [Act.put, List.setIfInBounds_toArray, List.set_cons_zero, List.set_cons_succ]
        refine wpAnyH_take (i := 1) (oi := { dst := some 74, op := Op.move (Operand.tmp 2), type := 3, pos := "law.go:161", after := #[], guard := none }) (v := .int .i64 (j : Int)) rfl (by kernel_rfl) (by kernel_rfl) (by kernel_rfl) (fun _ _ _ h => h) (Or.inl ⟨by rfl, ?_⟩) hHeld ?_
        · intro w hSw
          first
            | rfl
            | (go_simp; done)
        try simp only [Act.put, List.setIfInBounds_toArray, List.set_cons_zero, List.set_cons_succ]
        refine wpAnyH_take (i := 3) (oi := { dst := some 76, op := Op.load 43 (Operand.tmp 8), type := 43, pos := "law.go:161", after := #[], guard := none }) (v := .agg X.toArray) rfl (by kernel_rfl) (by kernel_rfl) (by kernel_rfl) (fun _ _ _ h => h)
          (yieldsIf_load_mid (by rfl) _ _ rfl g8 0 rfl X _ (fun w h => h.1) Tryd.underlying43 rfl hi) hHeld ?_
        try simp only [Act.put, List.setIfInBounds_toArray, List.set_cons_zero, List.set_cons_succ]
        refine wpAnyH_ready (rs := [2]) (by kernel_rfl) (by simp) ?_
        refine AllReadyH.cons (o := { dst := some 75, op := Op.call { callee := Callee.value (Operand.func 30), args := #[Operand.tmp 73, Operand.tmp 74], argTypes := #[38, 3] }, type := 43, pos := "law.go:161", after := #[{ on := 0, ground := Ground.data }, { on := 1, ground := Ground.data }], guard := none }) rfl (fun K hK => ?_) AllReadyH.nil
        go_simp
        refine Calls.mono (unhide KRT _ hk0) ?_
        rintro e w8 ⟨rfl, b8⟩
        have k8 := bcall hk0 b8
        go_wp2_with fail
        refine hK.out _ _ ?_ (fun hHeld => ?_)
        · exact KB.call hst k8
        clear hK K
        try simp only [Act.put, List.setIfInBounds_toArray, List.set_cons_zero, List.set_cons_succ]
        refine wpAnyH_take (i := 4) (oi := { dst := some 77, op := Op.binOp BinOp.eql 43 (Operand.tmp 75) (Operand.tmp 76) 43, type := 4, pos := "law.go:161", after := #[{ on := 2, ground := Ground.data }, { on := 3, ground := Ground.data }], guard := none }) (v := .bool true) rfl (by kernel_rfl) (by kernel_rfl) (by kernel_rfl) (fun _ _ _ h => h) (Or.inl ⟨by rfl, ?_⟩) hHeld ?_
        · intro w hSw
          first
            | rfl
            | (go_simp; done)
        try simp only [Act.put, List.setIfInBounds_toArray, List.set_cons_zero, List.set_cons_succ]
        refine wpAnyH_take (i := 5) (oi := { dst := some 78, op := Op.move (Operand.tmp 77), type := 4, pos := "law.go:161", after := #[{ on := 4, ground := Ground.data }, { on := 2, ground := Ground.chain }], guard := none }) (v := .bool true) rfl (by kernel_rfl) (by kernel_rfl) (by kernel_rfl) (fun _ _ _ h => h) (Or.inl ⟨by rfl, ?_⟩) hHeld ?_
        · intro w hSw
          first
            | rfl
            | (go_simp; done)
        try simp only [Act.put, List.setIfInBounds_toArray, List.set_cons_zero, List.set_cons_succ]
        refine wpAnyH_take (i := 6) (oi := { dst := some 79, op := Op.move (Operand.tmp 7), type := 38, pos := "law.go:161", after := #[{ on := 5, ground := Ground.guard }], guard := some (5, true) }) (v := .pointer (some ⟨w.heap.size, 0, none⟩)) rfl (by kernel_rfl) (by kernel_rfl) (by kernel_rfl) (fun _ _ _ h => h) (Or.inl ⟨by rfl, ?_⟩) hHeld ?_
        · intro w hSw
          first
            | rfl
            | (go_simp; done)
        try simp only [Act.put, List.setIfInBounds_toArray, List.set_cons_zero, List.set_cons_succ]
        refine wpAnyH_take (i := 8) (oi := { dst := some 81, op := Op.move (Operand.tmp 0), type := 35, pos := "law.go:161", after := #[{ on := 5, ground := Ground.guard }], guard := some (5, true) }) (v := .slice a n c) rfl (by kernel_rfl) (by kernel_rfl) (by kernel_rfl) (fun _ _ _ h => h) (Or.inl ⟨by rfl, ?_⟩) hHeld ?_
        · intro w hSw
          first
            | rfl
            | (go_simp; done)
        try simp only [Act.put, List.setIfInBounds_toArray, List.set_cons_zero, List.set_cons_succ]
        refine wpAnyH_take (i := 9) (oi := { dst := some 82, op := Op.call { callee := Callee.builtin Builtin.len, args := #[Operand.tmp 81], argTypes := #[35] }, type := 3, pos := "law.go:161", after := #[{ on := 8, ground := Ground.data }, { on := 5, ground := Ground.guard }], guard := some (5, true) }) (v := .int .i64 (n : Int)) rfl (by kernel_rfl) (by kernel_rfl) (by kernel_rfl) (fun _ _ _ h => h) (Or.inl ⟨by rfl, ?_⟩) hHeld ?_
        · intro w hSw
          first
            | rfl
            | (go_simp; done)
        try simp only [Act.put, List.setIfInBounds_toArray, List.set_cons_zero, List.set_cons_succ]
        refine wpAnyH_take (i := 10) (oi := { dst := some 83, op := Op.move (Operand.tmp 1), type := 35, pos := "law.go:161", after := #[{ on := 5, ground := Ground.guard }], guard := some (5, true) }) (v := .slice a2 n2 c2) rfl (by kernel_rfl) (by kernel_rfl) (by kernel_rfl) (fun _ _ _ h => h) (Or.inl ⟨by rfl, ?_⟩) hHeld ?_
        · intro w hSw
          first
            | rfl
            | (go_simp; done)
        try simp only [Act.put, List.setIfInBounds_toArray, List.set_cons_zero, List.set_cons_succ]
        refine wpAnyH_take (i := 11) (oi := { dst := some 84, op := Op.call { callee := Callee.builtin Builtin.len, args := #[Operand.tmp 83], argTypes := #[35] }, type := 3, pos := "law.go:161", after := #[{ on := 10, ground := Ground.data }, { on := 5, ground := Ground.guard }], guard := some (5, true) }) (v := .int .i64 (n2 : Int)) rfl (by kernel_rfl) (by kernel_rfl) (by kernel_rfl) (fun _ _ _ h => h) (Or.inl ⟨by rfl, ?_⟩) hHeld ?_
        · intro w hSw
          first
            | rfl
            | (go_simp; done)
        try simp only [Act.put, List.setIfInBounds_toArray, List.set_cons_zero, List.set_cons_succ]
        refine wpAnyH_take (i := 12) (oi := { dst := some 85, op := Op.binOp BinOp.add 3 (Operand.tmp 82) (Operand.tmp 84) 3, type := 3, pos := "law.go:161", after := #[{ on := 9, ground := Ground.data }, { on := 11, ground := Ground.data }, { on := 5, ground := Ground.guard }], guard := some (5, true) }) (v := .int .i64 (N : Int)) rfl (by kernel_rfl) (by kernel_rfl) (by kernel_rfl) (fun _ _ _ h => h) (Or.inl ⟨by rfl, ?_⟩) hHeld ?_
        · intro w hSw
          first
            | rfl
            | (go_simp; done)
        try simp only [Act.put, List.setIfInBounds_toArray, List.set_cons_zero, List.set_cons_succ]
        refine wpAnyH_ready (rs := [7]) (by kernel_rfl) (by simp) ?_
        refine AllReadyH.cons (o := { dst := some 80, op := Op.call { callee := Callee.value (Operand.func 26), args := #[Operand.tmp 79], argTypes := #[38] }, type := 3, pos := "law.go:161", after := #[{ on := 6, ground := Ground.data }, { on := 5, ground := Ground.chain }, { on := 5, ground := Ground.guard }], guard := some (5, true) }) rfl (fun K hK => ?_) AllReadyH.nil
        go_simp
        refine Calls.mono (unhide KLE _ k8) ?_
        rintro e w9 ⟨rfl, rfl⟩
        go_wp2_with fail
        refine hK.out _ _ ?_ (fun hHeld => ?_)
        · exact KB.call hst k8
        clear hK K
        try simp only [Act.put, List.setIfInBounds_toArray, List.set_cons_zero, List.set_cons_succ]
        refine wpAnyH_take (i := 13) (oi := { dst := some 86, op := Op.binOp BinOp.eql 3 (Operand.tmp 80) (Operand.tmp 85) 3, type := 4, pos := "law.go:161", after := #[{ on := 7, ground := Ground.data }, { on := 12, ground := Ground.data }, { on := 5, ground := Ground.guard }], guard := some (5, true) }) (v := .bool true) rfl (by kernel_rfl) (by kernel_rfl) (by kernel_rfl) (fun _ _ _ h => h) (Or.inl ⟨by rfl, ?_⟩) hHeld ?_
        · intro w hSw
          first
            | rfl
            | (go_simp; done)
        try simp only [Act.put, List.setIfInBounds_toArray, List.set_cons_zero, List.set_cons_succ]
        refine wpAnyH_take (i := 14) (oi := { dst := some 87, op := Op.pick (Operand.tmp 78) (Operand.tmp 86) (Operand.const (Value.bool false)), type := 4, pos := "law.go:161", after := #[{ on := 5, ground := Ground.data }, { on := 13, ground := Ground.data }], guard := none }) (v := .bool true) rfl (by kernel_rfl) (by kernel_rfl) (by kernel_rfl) (fun _ _ _ h => h) (Or.inl ⟨by rfl, ?_⟩) hHeld ?_
        · intro w hSw
          first
            | rfl
            | (go_simp; done)
        try simp only [Act.put, List.setIfInBounds_toArray, List.set_cons_zero, List.set_cons_succ]
        refine wpAnyH_take (i := 15) (oi := { dst := some 88, op := Op.move (Operand.tmp 87), type := 4, pos := "law.go:161", after := #[{ on := 14, ground := Ground.data }, { on := 7, ground := Ground.chain }], guard := none }) (v := .bool true) rfl (by kernel_rfl) (by kernel_rfl) (by kernel_rfl) (fun _ _ _ h => h) (Or.inl ⟨by rfl, ?_⟩) hHeld ?_
        · intro w hSw
          first
            | rfl
            | (go_simp; done)
        try simp only [Act.put, List.setIfInBounds_toArray, List.set_cons_zero, List.set_cons_succ]
        refine wpAnyH_ready (rs := [16]) (by kernel_rfl) (by simp) ?_
        refine AllReadyH.cons (o := { dst := some 89, op := Op.call { callee := Callee.value (Operand.func 21), args := #[], argTypes := #[] }, type := 4, pos := "law.go:161", after := #[{ on := 15, ground := Ground.chain }, { on := 15, ground := Ground.guard }], guard := some (15, true) }) rfl (fun K hK => ?_) AllReadyH.nil
        go_simp
        refine Calls.mono (unhide KAW _ k8) ?_
        rintro e w9 ⟨rfl, b9⟩
        have k9 := bcall k8 b9
        go_wp2_with fail
        refine hK.out _ _ ?_ (fun hHeld => ?_)
        · exact KB.call hst k9
        clear hK K
        try simp only [Act.put, List.setIfInBounds_toArray, List.set_cons_zero, List.set_cons_succ]
        refine wpAnyH_take (i := 17) (oi := { dst := some 90, op := Op.pick (Operand.tmp 88) (Operand.tmp 89) (Operand.const (Value.bool false)), type := 4, pos := "law.go:161", after := #[{ on := 15, ground := Ground.data }, { on := 16, ground := Ground.data }], guard := none }) (v := .bool true) rfl (by kernel_rfl) (by kernel_rfl) (by kernel_rfl) (fun _ _ _ h => h) (Or.inl ⟨by rfl, ?_⟩) hHeld ?_
        · intro w hSw
          first
            | rfl
            | (go_simp; done)
        try simp only [Act.put, List.setIfInBounds_toArray, List.set_cons_zero, List.set_cons_succ]
        refine wpAnyH_take (i := 18) (oi := { dst := some 6, op := Op.assign (Operand.tmp 90), type := 4, pos := "law.go:161", after := #[{ on := 17, ground := Ground.data }, { on := 16, ground := Ground.chain }, { on := 0, ground := Ground.phase }, { on := 1, ground := Ground.phase }, { on := 2, ground := Ground.phase }, { on := 3, ground := Ground.phase }, { on := 4, ground := Ground.phase }, { on := 5, ground := Ground.phase }, { on := 6, ground := Ground.phase }, { on := 7, ground := Ground.phase }, { on := 8, ground := Ground.phase }, { on := 9, ground := Ground.phase }, { on := 10, ground := Ground.phase }, { on := 11, ground := Ground.phase }, { on := 12, ground := Ground.phase }, { on := 13, ground := Ground.phase }, { on := 14, ground := Ground.phase }, { on := 15, ground := Ground.phase }, { on := 16, ground := Ground.phase }, { on := 17, ground := Ground.phase }], guard := none }) (v := .bool true) rfl (by kernel_rfl) (by kernel_rfl) (by kernel_rfl) (fun _ _ _ h => h) (Or.inl ⟨by rfl, ?_⟩) hHeld ?_
        · intro w hSw
          first
            | rfl
            | (go_simp; done)
        try simp only [Act.put, List.setIfInBounds_toArray, List.set_cons_zero, List.set_cons_succ]
        refine wpAnyH_done (by kernel_rfl) ?_ _
        go_wp2_with fail
        go_ret
        exact ⟨by first | rfl | kernel_rfl, bcall (unhide HB7) k9⟩
    · have hm1 : max (n : Int) 1 = (n : Int) := by omega
      have HGB := hide (grown_log w.heap.size E' τ5 n N w5 ((unhide HT).below (unhide HB5)) (unhide HL5) (by have := unhide HEL; omega) (by omega) (by omega) (by have := unhide HEL; omega))
      have nN : (0 : Int) < (N : Int) := by omega
      have nn : (0 : Int) < (n : Int) := by omega
      have HGO := hide (grows_own (unhide HEL) (show 1 ≤ n by omega) (show n ≤ N by omega))
      rw [unhide HEN] at HGO
      have HTK : Hid (E'.take N = E') := hide (List.take_of_length_le (by have := unhide HEL; omega))
      rw [unhide HTK] at HGB
      go_wp2_with fail
      refine Calls.mono (unhide HLE5) ?_
      rintro e wx ⟨rfl, rfl⟩
      go_wp2_with fail
      refine Calls.mono (unhide HGB) ?_
      rintro e w6 ⟨gv, rfl, b6, S6⟩
      have hgp := PS.of_sms S6 (Nat.le_trans (grownL_ok N E' n true (unhide HEL) (by omega)) (by omega))
      obtain ⟨ga, gc, hgv, _⟩ := own_shape S6.1
      subst hgv
      have HLE6 := hide (p := ∀ W, Below w6.heap.size w6 W → _) (fun W hW => len_log w.heap.size E' τ5 W (((unhide HL5).call b6).call hW))
      rw [unhide HEL] at HLE6
      have B6 := bcall (unhide HB5) b6
      have HDG := hide (rdig_any n a c P w6 (unhide HN) ((unhide HL).call B6) (unhide H8) (fun x hx => Nat.le_trans (unhide HLN x hx) (by decide)) (by omega))
      have HRT := hide (p := ∀ W, Below w6.heap.size w6 W → _) (fun W hW => root_ok w.heap.size E' τ5 N W ((unhide HT).below (bcall B6 hW)) (((unhide HL5).call b6).call hW) (by have := unhide HEL; omega) (by have := unhide HEL; omega))
      rw [unhide HTK] at HRT
      have HGW := hide (p := ∀ W, Below w6.heap.size w6 W → _) (fun W hW => grows_ok n N (digL (P.map (·.2))) (digL E') (grownL E' n true) _ W ((unhide HT).below (bcall B6 hW)) (by omega) (by omega) (by omega) (digL_len _) (digL_8 _) (digL_len _) (hgp.call hW))
      rw [unhide HGO] at HGW
      obtain ⟨gl, hgl⟩ : ∃ q, (grownL E' n true).length = q := ⟨_, rfl⟩
      rw [hgl] at HGW ⊢
      obtain ⟨A1, hA1⟩ : ∃ A, (bv (digL (P.map (·.2)))).toArray = A := ⟨_, rfl⟩
      obtain ⟨A2, hA2⟩ : ∃ A, (bv (digL E')).toArray = A := ⟨_, rfl⟩
      rw [hA1] at HDG
      rw [hA2] at HRT
      rw [hA1, hA2] at HGW
      have HB6 := hide B6
      have HL6 := hide ((unhide HL5).call b6)
      have HR86 := hide ((unhide HR85).below b6 (unhide HR85).lt)
      have k60 : Below w6.heap.size w6 w6 := Below.refl _ _
      clear b6 S6 HB5 HL5 HR85 HLE5 HGB hgp B6 hA1 hA2 hgl
      go_wp2_with fail
      refine Calls.mono (unhide HLE6 _ k60) ?_
      rintro e wx ⟨rfl, rfl⟩
      go_wp2_with fail
      refine Calls.mono (unhide HLE6 _ k60) ?_
      rintro e wx ⟨rfl, rfl⟩
      go_wp2_with fail
      refine Calls.mono (unhide HDG) ?_
      rintro e wa ⟨rfl, ba⟩
      have ka := bcall k60 ba
      have HL1 := hide (unhide HLE6 _ ka)
      clear ba
      go_wp2_with fail
      refine Calls.mono (unhide HL1) ?_
      rintro e wx ⟨rfl, rfl⟩
      have HR1 := hide (unhide HRT _ ka)
      go_wp2_with fail
      refine Calls.mono (unhide HR1) ?_
      rintro e wb ⟨rfl, bb⟩
      have kb := bcall ka bb
      have HG1 := hide (unhide HGW _ kb)
      clear bb
      go_wp2_with fail
      refine Calls.mono (unhide HG1) ?_
      rintro e w7 ⟨rfl, bc⟩
      have kc := bcall kb bc
      have HB7 := hide (bcall (unhide HB6) kc)
      have HL7 := hide ((unhide HL6).call kc)
      have HR8z := hide ((unhide HR86).below kc (unhide HR86).lt)
      clear bc ka kb kc k60 HB6 HL6 HR86 HLE6 HDG HRT HGW HL1 HR1 HG1
      go_wp2_with fail
      have hst : KB w7 w7 g8 X := ⟨(unhide HR8z).range, Below.refl _ _⟩
      have hk0 : Below w7.heap.size w7 w7.drew := (Below.refl _ _).drew
      have KRT := hide (p := ∀ W, Below w7.heap.size w7 W → _) (fun W hW => root_ok w.heap.size E' τ5 j W ((unhide HT).below (bcall (unhide HB7) hW)) ((unhide HL7).call hW) (by have := unhide HEL; omega) (by have := unhide HEL; have := unhide HJN; omega))
      rw [unhide HDJ, unhide HX] at KRT
      have KLE := hide (p := ∀ W, Below w7.heap.size w7 W → _) (fun W hW => len_log w.heap.size E' τ5 W ((unhide HL7).call hW))
      rw [unhide HEL] at KLE
      have KAW := hide (p := ∀ W, Below w7.heap.size w7 W → _) (fun W hW => aawake_any W ((unhide HT).below (bcall (unhide HB7) hW)))
      clear HL7 HR8z
      refine wp_region_held_drew (S := fun w' => KB w7 w' g8 X) (by kernel_rfl) (KB.call hst hk0) (fun hHeld => ?_)
      refine wpAnyH_take (i := 0) (oi := { dst := some 73, op := Op.move (Operand.tmp 7), type := 38, pos := "law.go:161", after := #[], guard := none }) (v := .pointer (some ⟨w.heap.size, 0, none⟩)) rfl (by kernel_rfl) (by kernel_rfl) (by kernel_rfl) (fun _ _ _ h => h) (Or.inl ⟨by rfl, ?_⟩) hHeld ?_
      · intro w hSw
        first
          | rfl
          | (go_simp; done)
      try simp only [Act.put, List.setIfInBounds_toArray, List.set_cons_zero, List.set_cons_succ]
      refine wpAnyH_take (i := 1) (oi := { dst := some 74, op := Op.move (Operand.tmp 2), type := 3, pos := "law.go:161", after := #[], guard := none }) (v := .int .i64 (j : Int)) rfl (by kernel_rfl) (by kernel_rfl) (by kernel_rfl) (fun _ _ _ h => h) (Or.inl ⟨by rfl, ?_⟩) hHeld ?_
      · intro w hSw
        first
          | rfl
          | (go_simp; done)
      try simp only [Act.put, List.setIfInBounds_toArray, List.set_cons_zero, List.set_cons_succ]
      refine wpAnyH_take (i := 3) (oi := { dst := some 76, op := Op.load 43 (Operand.tmp 8), type := 43, pos := "law.go:161", after := #[], guard := none }) (v := .agg X.toArray) rfl (by kernel_rfl) (by kernel_rfl) (by kernel_rfl) (fun _ _ _ h => h)
        (yieldsIf_load_mid (by rfl) _ _ rfl g8 0 rfl X _ (fun w h => h.1) Tryd.underlying43 rfl hi) hHeld ?_
      try simp only [Act.put, List.setIfInBounds_toArray, List.set_cons_zero, List.set_cons_succ]
      refine wpAnyH_ready (rs := [2]) (by kernel_rfl) (by simp) ?_
      refine AllReadyH.cons (o := { dst := some 75, op := Op.call { callee := Callee.value (Operand.func 30), args := #[Operand.tmp 73, Operand.tmp 74], argTypes := #[38, 3] }, type := 43, pos := "law.go:161", after := #[{ on := 0, ground := Ground.data }, { on := 1, ground := Ground.data }], guard := none }) rfl (fun K hK => ?_) AllReadyH.nil
      go_simp
      refine Calls.mono (unhide KRT _ hk0) ?_
      rintro e w8 ⟨rfl, b8⟩
      have k8 := bcall hk0 b8
      go_wp2_with fail
      refine hK.out _ _ ?_ (fun hHeld => ?_)
      · exact KB.call hst k8
      clear hK K
      try simp only [Act.put, List.setIfInBounds_toArray, List.set_cons_zero, List.set_cons_succ]
      refine wpAnyH_take (i := 4) (oi := { dst := some 77, op := Op.binOp BinOp.eql 43 (Operand.tmp 75) (Operand.tmp 76) 43, type := 4, pos := "law.go:161", after := #[{ on := 2, ground := Ground.data }, { on := 3, ground := Ground.data }], guard := none }) (v := .bool true) rfl (by kernel_rfl) (by kernel_rfl) (by kernel_rfl) (fun _ _ _ h => h) (Or.inl ⟨by rfl, ?_⟩) hHeld ?_
      · intro w hSw
        first
          | rfl
          | (go_simp; done)
      try simp only [Act.put, List.setIfInBounds_toArray, List.set_cons_zero, List.set_cons_succ]
      refine wpAnyH_take (i := 5) (oi := { dst := some 78, op := Op.move (Operand.tmp 77), type := 4, pos := "law.go:161", after := #[{ on := 4, ground := Ground.data }, { on := 2, ground := Ground.chain }], guard := none }) (v := .bool true) rfl (by kernel_rfl) (by kernel_rfl) (by kernel_rfl) (fun _ _ _ h => h) (Or.inl ⟨by rfl, ?_⟩) hHeld ?_
      · intro w hSw
        first
          | rfl
          | (go_simp; done)
      try simp only [Act.put, List.setIfInBounds_toArray, List.set_cons_zero, List.set_cons_succ]
      refine wpAnyH_take (i := 6) (oi := { dst := some 79, op := Op.move (Operand.tmp 7), type := 38, pos := "law.go:161", after := #[{ on := 5, ground := Ground.guard }], guard := some (5, true) }) (v := .pointer (some ⟨w.heap.size, 0, none⟩)) rfl (by kernel_rfl) (by kernel_rfl) (by kernel_rfl) (fun _ _ _ h => h) (Or.inl ⟨by rfl, ?_⟩) hHeld ?_
      · intro w hSw
        first
          | rfl
          | (go_simp; done)
      try simp only [Act.put, List.setIfInBounds_toArray, List.set_cons_zero, List.set_cons_succ]
      refine wpAnyH_take (i := 8) (oi := { dst := some 81, op := Op.move (Operand.tmp 0), type := 35, pos := "law.go:161", after := #[{ on := 5, ground := Ground.guard }], guard := some (5, true) }) (v := .slice a n c) rfl (by kernel_rfl) (by kernel_rfl) (by kernel_rfl) (fun _ _ _ h => h) (Or.inl ⟨by rfl, ?_⟩) hHeld ?_
      · intro w hSw
        first
          | rfl
          | (go_simp; done)
      try simp only [Act.put, List.setIfInBounds_toArray, List.set_cons_zero, List.set_cons_succ]
      refine wpAnyH_take (i := 9) (oi := { dst := some 82, op := Op.call { callee := Callee.builtin Builtin.len, args := #[Operand.tmp 81], argTypes := #[35] }, type := 3, pos := "law.go:161", after := #[{ on := 8, ground := Ground.data }, { on := 5, ground := Ground.guard }], guard := some (5, true) }) (v := .int .i64 (n : Int)) rfl (by kernel_rfl) (by kernel_rfl) (by kernel_rfl) (fun _ _ _ h => h) (Or.inl ⟨by rfl, ?_⟩) hHeld ?_
      · intro w hSw
        first
          | rfl
          | (go_simp; done)
      try simp only [Act.put, List.setIfInBounds_toArray, List.set_cons_zero, List.set_cons_succ]
      refine wpAnyH_take (i := 10) (oi := { dst := some 83, op := Op.move (Operand.tmp 1), type := 35, pos := "law.go:161", after := #[{ on := 5, ground := Ground.guard }], guard := some (5, true) }) (v := .slice a2 n2 c2) rfl (by kernel_rfl) (by kernel_rfl) (by kernel_rfl) (fun _ _ _ h => h) (Or.inl ⟨by rfl, ?_⟩) hHeld ?_
      · intro w hSw
        first
          | rfl
          | (go_simp; done)
      try simp only [Act.put, List.setIfInBounds_toArray, List.set_cons_zero, List.set_cons_succ]
      refine wpAnyH_take (i := 11) (oi := { dst := some 84, op := Op.call { callee := Callee.builtin Builtin.len, args := #[Operand.tmp 83], argTypes := #[35] }, type := 3, pos := "law.go:161", after := #[{ on := 10, ground := Ground.data }, { on := 5, ground := Ground.guard }], guard := some (5, true) }) (v := .int .i64 (n2 : Int)) rfl (by kernel_rfl) (by kernel_rfl) (by kernel_rfl) (fun _ _ _ h => h) (Or.inl ⟨by rfl, ?_⟩) hHeld ?_
      · intro w hSw
        first
          | rfl
          | (go_simp; done)
      try simp only [Act.put, List.setIfInBounds_toArray, List.set_cons_zero, List.set_cons_succ]
      refine wpAnyH_take (i := 12) (oi := { dst := some 85, op := Op.binOp BinOp.add 3 (Operand.tmp 82) (Operand.tmp 84) 3, type := 3, pos := "law.go:161", after := #[{ on := 9, ground := Ground.data }, { on := 11, ground := Ground.data }, { on := 5, ground := Ground.guard }], guard := some (5, true) }) (v := .int .i64 (N : Int)) rfl (by kernel_rfl) (by kernel_rfl) (by kernel_rfl) (fun _ _ _ h => h) (Or.inl ⟨by rfl, ?_⟩) hHeld ?_
      · intro w hSw
        first
          | rfl
          | (go_simp; done)
      try simp only [Act.put, List.setIfInBounds_toArray, List.set_cons_zero, List.set_cons_succ]
      refine wpAnyH_ready (rs := [7]) (by kernel_rfl) (by simp) ?_
      refine AllReadyH.cons (o := { dst := some 80, op := Op.call { callee := Callee.value (Operand.func 26), args := #[Operand.tmp 79], argTypes := #[38] }, type := 3, pos := "law.go:161", after := #[{ on := 6, ground := Ground.data }, { on := 5, ground := Ground.chain }, { on := 5, ground := Ground.guard }], guard := some (5, true) }) rfl (fun K hK => ?_) AllReadyH.nil
      go_simp
      refine Calls.mono (unhide KLE _ k8) ?_
      rintro e w9 ⟨rfl, rfl⟩
      go_wp2_with fail
      refine hK.out _ _ ?_ (fun hHeld => ?_)
      · exact KB.call hst k8
      clear hK K
      try simp only [Act.put, List.setIfInBounds_toArray, List.set_cons_zero, List.set_cons_succ]
      refine wpAnyH_take (i := 13) (oi := { dst := some 86, op := Op.binOp BinOp.eql 3 (Operand.tmp 80) (Operand.tmp 85) 3, type := 4, pos := "law.go:161", after := #[{ on := 7, ground := Ground.data }, { on := 12, ground := Ground.data }, { on := 5, ground := Ground.guard }], guard := some (5, true) }) (v := .bool true) rfl (by kernel_rfl) (by kernel_rfl) (by kernel_rfl) (fun _ _ _ h => h) (Or.inl ⟨by rfl, ?_⟩) hHeld ?_
      · intro w hSw
        first
          | rfl
          | (go_simp; done)
      try simp only [Act.put, List.setIfInBounds_toArray, List.set_cons_zero, List.set_cons_succ]
      refine wpAnyH_take (i := 14) (oi := { dst := some 87, op := Op.pick (Operand.tmp 78) (Operand.tmp 86) (Operand.const (Value.bool false)), type := 4, pos := "law.go:161", after := #[{ on := 5, ground := Ground.data }, { on := 13, ground := Ground.data }], guard := none }) (v := .bool true) rfl (by kernel_rfl) (by kernel_rfl) (by kernel_rfl) (fun _ _ _ h => h) (Or.inl ⟨by rfl, ?_⟩) hHeld ?_
      · intro w hSw
        first
          | rfl
          | (go_simp; done)
      try simp only [Act.put, List.setIfInBounds_toArray, List.set_cons_zero, List.set_cons_succ]
      refine wpAnyH_take (i := 15) (oi := { dst := some 88, op := Op.move (Operand.tmp 87), type := 4, pos := "law.go:161", after := #[{ on := 14, ground := Ground.data }, { on := 7, ground := Ground.chain }], guard := none }) (v := .bool true) rfl (by kernel_rfl) (by kernel_rfl) (by kernel_rfl) (fun _ _ _ h => h) (Or.inl ⟨by rfl, ?_⟩) hHeld ?_
      · intro w hSw
        first
          | rfl
          | (go_simp; done)
      try simp only [Act.put, List.setIfInBounds_toArray, List.set_cons_zero, List.set_cons_succ]
      refine wpAnyH_ready (rs := [16]) (by kernel_rfl) (by simp) ?_
      refine AllReadyH.cons (o := { dst := some 89, op := Op.call { callee := Callee.value (Operand.func 21), args := #[], argTypes := #[] }, type := 4, pos := "law.go:161", after := #[{ on := 15, ground := Ground.chain }, { on := 15, ground := Ground.guard }], guard := some (15, true) }) rfl (fun K hK => ?_) AllReadyH.nil
      go_simp
      refine Calls.mono (unhide KAW _ k8) ?_
      rintro e w9 ⟨rfl, b9⟩
      have k9 := bcall k8 b9
      go_wp2_with fail
      refine hK.out _ _ ?_ (fun hHeld => ?_)
      · exact KB.call hst k9
      clear hK K
      try simp only [Act.put, List.setIfInBounds_toArray, List.set_cons_zero, List.set_cons_succ]
      refine wpAnyH_take (i := 17) (oi := { dst := some 90, op := Op.pick (Operand.tmp 88) (Operand.tmp 89) (Operand.const (Value.bool false)), type := 4, pos := "law.go:161", after := #[{ on := 15, ground := Ground.data }, { on := 16, ground := Ground.data }], guard := none }) (v := .bool true) rfl (by kernel_rfl) (by kernel_rfl) (by kernel_rfl) (fun _ _ _ h => h) (Or.inl ⟨by rfl, ?_⟩) hHeld ?_
      · intro w hSw
        first
          | rfl
          | (go_simp; done)
      try simp only [Act.put, List.setIfInBounds_toArray, List.set_cons_zero, List.set_cons_succ]
      refine wpAnyH_take (i := 18) (oi := { dst := some 6, op := Op.assign (Operand.tmp 90), type := 4, pos := "law.go:161", after := #[{ on := 17, ground := Ground.data }, { on := 16, ground := Ground.chain }, { on := 0, ground := Ground.phase }, { on := 1, ground := Ground.phase }, { on := 2, ground := Ground.phase }, { on := 3, ground := Ground.phase }, { on := 4, ground := Ground.phase }, { on := 5, ground := Ground.phase }, { on := 6, ground := Ground.phase }, { on := 7, ground := Ground.phase }, { on := 8, ground := Ground.phase }, { on := 9, ground := Ground.phase }, { on := 10, ground := Ground.phase }, { on := 11, ground := Ground.phase }, { on := 12, ground := Ground.phase }, { on := 13, ground := Ground.phase }, { on := 14, ground := Ground.phase }, { on := 15, ground := Ground.phase }, { on := 16, ground := Ground.phase }, { on := 17, ground := Ground.phase }], guard := none }) (v := .bool true) rfl (by kernel_rfl) (by kernel_rfl) (by kernel_rfl) (fun _ _ _ h => h) (Or.inl ⟨by rfl, ?_⟩) hHeld ?_
      · intro w hSw
        first
          | rfl
          | (go_simp; done)
      try simp only [Act.put, List.setIfInBounds_toArray, List.set_cons_zero, List.set_cons_succ]
      refine wpAnyH_done (by kernel_rfl) ?_ _
      go_wp2_with fail
      go_ret
      exact ⟨by first | rfl | kernel_rfl, bcall (unhide HB7) k9⟩

set_option maxRecDepth 100000 in
theorem contract (H : Type) (enc : TypeId × Value → H) (W : World) (base : Nat) (args : Array Value) (ds gs : List (DataW H)) (before : List MemPlace)
    (hval : ∀ (j : Nat) t v, Tryd.f11.params[j]? = some t → args[j]? = some v → Value.okWide Tryd.prog W .any base t v)
    (hW : DataW.Whole enc Tryd.prog Tryd.f11.params.toList Rows.auditStaysSpec.vars false W args.toList ds gs before) (hL : laidMetH Tryd.prog Rows.auditStaysRow.laid W) :
    Calls Tryd.prog 11 args W fun e W' => ∃ v, e = .returned v ∧ Rows.auditStaysSpec.post enc Tryd.prog Tryd.f11 false true false false W args v W' := by
  have hT : Tabs W := tabs_of hL
  have hW' := hW
  obtain ⟨p, q, hA0, hV, rfl, hfz, hnd⟩ := hW
  have hA : DataW.TrodAll enc Tryd.prog W 0 (fun _ => true) true Tryd.f11.params.toList args.toList ds p := hA0
  rw [Tryd.params11] at hA hval
  obtain ⟨v0, vs0, d0, ds0, p0, q0, hargs, rfl, rfl, h0, r0⟩ := trodAll_cons hA
  obtain ⟨v1, vs1, d1, ds1, p1, q1, rfl, rfl, rfl, h1, r1⟩ := trodAll_cons r0
  obtain ⟨v2, vs2, d2, ds2, p2, q2, rfl, rfl, rfl, h2, r2⟩ := trodAll_cons r1
  obtain ⟨rfl, rfl, rfl⟩ := trodAll_nil r2
  obtain rfl : args = #[v0, v1, v2] := by cases args; simp_all
  obtain ⟨rfl, rfl⟩ := trodVars_none hV
  have lt0 : ∀ x ∈ p0, x.block < W.heap.size := by obtain ⟨m, hm⟩ := h0; exact DataW.trod_lt m _ _ _ hm
  have lt1 : ∀ x ∈ p1, x.block < W.heap.size := by obtain ⟨m, hm⟩ := h1; exact DataW.trod_lt m _ _ _ hm
  have lt2 : ∀ x ∈ p2, x.block < W.heap.size := by obtain ⟨m, hm⟩ := h2; exact DataW.trod_lt m _ _ _ hm
  obtain ⟨P, hP, hP8, hPd⟩ := open_lists (hval 0 35 v0 rfl rfl) h0
  obtain ⟨la, lc, hv, _⟩ := id hP
  subst hv
  obtain ⟨P2, hP2, hP28, hPd2⟩ := open_lists (hval 1 35 v1 rfl rfl) h1
  obtain ⟨la2, lc2, hv2, _⟩ := id hP2
  subst hv2
  obtain ⟨n2, rfl⟩ := open_i64 (hval 2 3 v2 rfl rfl) h2
  clear hA0
  refine (walk P la P.length lc P2 la2 P2.length lc2 n2 W hT rfl hP hP8 rfl hP2 hP28).mono fun e W' ⟨he, bel⟩ => ?_
  subst he
  exact ⟨_, rfl, _, _, _, [], _, [], hW', trodAll_mk1 (shut_bool Tryd.underlying4 _), (trodAll_cons_mk (Below.trod laidOut (by kernel_rfl) (of_decide_eq_true (by kernel_rfl)) h0 bel lt0) (trodAll_cons_mk (Below.trod laidOut (by kernel_rfl) (of_decide_eq_true (by kernel_rfl)) h1 bel lt1) (trodAll_cons_mk (Below.trod laidOut (by kernel_rfl) (of_decide_eq_true (by kernel_rfl)) h2 bel lt2) trodAll_mk0))), rfl, bel.frame _, fun h => by cases h⟩

set_option maxRecDepth 100000 in
theorem laid_here (os : Os) : laidMet Tryd.prog Rows.auditStaysRow.laid ((laidWorld os).forCall (fun _ _ => 0) ⟨#[], #[.slice none 0 0, .slice none 0 0, .int .i64 0], []⟩).memory :=
  laidMet_of_run' 8 (by kernel_rfl) (by kernel_rfl)
theorem reads (os : Os) {H : Type} (enc : TypeId × Value → H) : ∃ places, DataW.whole enc Tryd.prog ((laidWorld os).forCall (fun _ _ => 0) ⟨#[], #[.slice none 0 0, .slice none 0 0, .int .i64 0], []⟩).memory Tryd.f11.params.toList Rows.auditStaysSpec.vars false (#[.slice none 0 0, .slice none 0 0, .int .i64 0] : Array Value).toList 8 = some ([.nil, .nil, .lit (.int .i64 0)], [], places) :=
  ⟨[], by kernel_rfl⟩

set_option maxRecDepth 100000 in
theorem lifted (os : Os) (started : os.Started) (H : Type) (enc : TypeId × Value → H) (F : Stop.Interp) :
    ReturnsInHanded {} Tryd.checked os 11 .any ((OpenSpec.ofChange Rows.auditStaysSpec).preRow enc Tryd.prog Tryd.f11 Rows.auditStaysRow.domain false Rows.auditStaysRow.laid) (((OpenSpec.ofChange Rows.auditStaysSpec).at F).post enc Tryd.prog Tryd.f11 false true false false) := by
  obtain ⟨places, hx⟩ := reads os enc
  refine returnsInHanded_of_row (C := Tryd.checked) (s := OpenSpec.ofChange Rows.auditStaysSpec) own started (by kernel_rfl) Tryd.func11
    (witness_row_at (enc := enc) (C := Tryd.checked) false (laidWorld os) #[.slice none 0 0, .slice none 0 0, .int .i64 0] rfl (by kernel_rfl) (by kernel_rfl) (by kernel_rfl)
      (OpenSpec.preRow_of_cond 8 hx (by kernel_rfl) (fun k hk => by cases hk) (by kernel_rfl) (laid_here os))) ?_
  intro W base args ds gs before hval hW _ _ _ hL _ _
  exact contract H enc W base args ds gs before hval hW hL

set_option maxRecDepth 100000 in
theorem said : Rows.AuditStaysSaid :=
  OpenClaim.holds_of_cond 11 Tryd.f11 rfl rfl rfl rfl rfl rfl rfl ⟨rfl, rfl, rfl, rfl, rfl⟩ rfl rfl rfl rfl rfl (by kernel_rfl) Tryd.func11 (by kernel_rfl)
    (of_decide_eq_true (by kernel_rfl)) (by unfold Func.isWrapper; first | (rw [if_pos (by decide +kernel)]; kernel_rfl) | (rw [if_neg (by decide +kernel)]; exact ⟨rfl, rfl⟩))
    (fun os started H enc _ F => by rw [OpenClaim.pre_eq_preRow]; exact lifted os started H enc F)

set_option maxRecDepth 100000 in
theorem plain (f : FuncId) (fn : Func) (hf : Tryd.pinned.checked.prog.funcNamed "sealskin/sealskinlaw15.AuditStays" = some f) (hfn : Tryd.pinned.checked.prog.funcs[f]? = some fn) :
    false = Tryd.pinned.checked.prog.looks [] ∧ ∀ (j : Nat) t, fn.params[j]? = some t → Tryd.pinned.checked.prog.wantsStandIn t = false := by
  obtain rfl : f = 11 := Option.some.inj ((show Tryd.prog.funcNamed "sealskin/sealskinlaw15.AuditStays" = some 11 by kernel_rfl).symm.trans hf) |>.symm
  obtain rfl : fn = Tryd.f11 := (Option.some.inj (Tryd.func11.symm.trans hfn)).symm
  refine ⟨by kernel_rfl, fun j t ht => ?_⟩
  rw [Tryd.params11] at ht
  have := Array.mem_of_getElem? ht
  simp at this
  rcases this with rfl | rfl
  · exact (show Tryd.prog.wantsStandIn 35 = false by kernel_rfl)
  · exact (show Tryd.prog.wantsStandIn 3 = false by kernel_rfl)

theorem proved : Rows.AuditStaysCardSaid :=
  Claim7.holds_tied_plain_at .later [] _ _ _ _ said (fun _ h => by cases h) (by kernel_rfl) (fun _ h => by cases h) auditStays_row_tie rfl ⟨rfl, rfl⟩ (by kernel_rfl) rfl plain (by kernel_rfl)
#print axioms proved
end Go.Proofs.YtonkgiiacholeaaDoor.astays
