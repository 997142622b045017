/- Climbing: one more entry's digest, and those of all stretches that are whole with it. -/
import Derived.Test.YtonkgiiacholeaaDoorAClimb0
namespace Go.Proofs.YtonkgiiacholeaaDoor
set_option linter.unusedVariables false
set_option linter.unusedSimpArgs false
open Go.ChangeShapes Go.WideShapes Go.ChangeAt Go.RowKit Go.Joins

theorem Only.setRowA {p : Nat → Prop} {a b : World} (h : Only p a b) (g : Nat) (cs : Array Value) (hg : p g) : Only p a (b.setRow g cs) :=
  h.trans ⟨rfl, rfl, rfl, by simp [World.setRow], fun k hk hn => setRow_other _ _ _ _ (fun e => hn (by first | exact e ▸ hg | exact e.symm ▸ hg))⟩
theorem wp_load_of {P : Program} {o : Oper} {a : Act} {w : World} {K : Act → World → Prop} {Q : Exit → Act → World → Prop} (ty : TypeId) (x : Operand) (ho : o.op = .load ty x) (p : Addr) (hx : a.eval x = .pointer (some p)) (v : Value)
    (hrun : (loadVar ty p).run P w = .ok v w) (h : K (a.put o.dst v) w) : o.wp P a w K Q := by
  unfold Oper.wp execOp
  simp only [ho, hx, Instr.loadAt, Instr.sureAddr, Sem.run_bind, Sem.run_pure, Result.andThen_ok, hrun]
  exact h
set_option maxRecDepth 100000 in
set_option maxHeartbeats 8000000 in
theorem climb_any (w : World) (τ : Nat → Int) (g : Nat) (ev hv : Value) (P : List (Value × List Nat)) (Q : List (Value × List (List Nat))) (E : List (List Nat)) (d s : List Nat) (hT : Tabs w) (hτ : ∀ k, τ k ≠ -1 → 7 ≤ k) (hL : Lg w τ g ev hv P Q) (hQ : Q.map (·.2) = heightsL E) (hn : E.length ≤ 1000) (hs : s = leafL d) (hs8 : U8 s) :
    Calls Tryd.prog 55 #[.pointer (some ⟨g, 0, none⟩), .agg (bv s).toArray] w fun e w' => e = .returned (.tuple #[]) ∧ ∃ τ' hv' Q', Lg w' τ' g ev hv' P Q' ∧ Q'.map (·.2) = heightsL (E ++ [d]) ∧ (∀ k, k < w.heap.size → τ' k = τ k) ∧ Only (fun k => τ k ≠ -1) w w' := by
  obtain ⟨S, hS⟩ : ∃ S, (bv s).toArray = S := ⟨_, rfl⟩
  rw [hS]
  have hsl : s.length = 32 := by rw [hs, leafL_len]
  have RS : RowAt (w.alloc (.cells S 43)) w.heap.size 43 (bv s) := hS ▸ RowAt.new w 43 (bv s)
  have HST : Hid (Cl w (w.alloc (.cells S 43)) τ g w.heap.size ev P E d 0 true (fun k => if k < w.heap.size then τ k else -1) hv Q s) := hide {
    lg := (hL.retag (τ' := fun k => if k < w.heap.size then τ k else -1) (fun k hk => if_pos hk)).call ((Below.refl _ _).alloc (Nat.le_refl _) _)
    old := fun k hk => if_pos hk
    far := if_neg (by omega)
    row := RS
    len := ⟨hsl, hs8⟩
    only := Only.alloc (Only.refl _ _) _
    yes := fun _ => ⟨by rw [hQ, midL_zero], ⟨E.length + 1, by omega⟩, by
      rw [hs, Nat.pow_zero, Nat.add_sub_cancel, cutE_one (d := d) (by simp), digL_one]⟩
    no := fun h => by cases h }
  have HT := hide hT
  have HTA := hide hτ
  have HN := hide hn
  clear hT hτ hL hQ hn hs hs8 hS hsl RS
  go_enter Tryd.func55, Tryd.ntmps55
  go_wp2_with fail
  generalize w.alloc (.cells S 43) = w1 at *
  go_loopw [4, 5] (fun h b wr => ∃ (j : Nat) (wh : Bool), h = .int .i64 (j : Int) ∧ b = .bool wh ∧ Hid ((j ≤ 21 ∧ (wh = true → j ≤ 20)) ∧ ∃ τr hvr Qr sr, Cl w wr τ g w.heap.size ev P E d j wh τr hvr Qr sr)) (fun h b _ => match b with | .bool true => 100 - (intOf h).toNat | _ => 0)
  case atStart => exact ⟨0, true, rfl, rfl, hide ⟨⟨by omega, fun _ => by omega⟩, _, _, _, _, unhide HST⟩⟩
  case round =>
    obtain ⟨j, wh, rfl, rfl, HC⟩ := hrel
    cases wh with
    | false =>
      obtain ⟨_, τr, hvr, Qr, sr, hC⟩ := unhide HC
      have HCC := hide hC
      clear HC hC
      go_wp2_with fail
      go_end0
      exact ⟨rfl, τr, hvr, Qr, (unhide HCC).lg, (unhide HCC).no rfl, (unhide HCC).old, (unhide HCC).only⟩
    | true =>
      obtain ⟨hj, τr, hvr, Qr, sr, hC⟩ := unhide HC
      have hQl : Qr.length = max j (bl E.length) := by
        have := congrArg List.length (hC.yes rfl).1
        rw [List.length_map, midL_len] at this
        exact this
      by_cases hjN : j = Qr.length
      · obtain ⟨ha, hc0, hhe, hcle⟩ := own_shape hC.lg.ho
        obtain ⟨h1, h2, h3⟩ := hC.yes rfl
        have hbl : bl E.length ≤ j := by omega
        obtain ⟨N0, hN0⟩ : ∃ N, Qr.length = N := ⟨_, rfl⟩
        have c2 : wr.cell? ⟨g, 2, none⟩ = some (.slice ha N0 hc0) := by have := hC.lg.row.cell 2; rw [hhe, hN0] at this; exact this
        have t1 : ((j : Int) == (N0 : Int)) = true := beq_iff_eq.2 (by omega)
        have jb : (j : Int) ≤ 20 := by have := hj.2 rfl; omega
        have ho1 : (wr.alloc (.cells #[.slice none 0 0] 121)).ownsRow 0 121 1 (.slice ha N0 hc0) N0 (Qr.map (·.1)) := by
          have := own_only hC.lg.ho (Only.alloc (Only.refl (fun _ => False) wr) (.cells #[.slice none 0 0] 121)) (fun _ _ h => h)
          rw [hN0, hhe, hN0] at this
          exact this
        obtain ⟨i1, hi1, hz1, hs1, hb1⟩ := info_parts info121
        have n0 : N0 ≤ 20 := by have := hj.2 rfl; omega
        have hgl := hC.lg.row.lt
        have z2 : wr.frozen? ⟨g, 2, none⟩ = false := hC.lg.row.frozen 2
        have hne : ∀ k, (Value.slice ha N0 hc0).ownBlock = some k → k ≠ g := fun k hk e => by
          have := hC.lg.th k (by rw [hhe, hN0]; exact hk)
          rw [e, hC.lg.tg] at this
          omega
        have HCC := hide hC
        have HH := hide (show hvr = .slice ha N0 hc0 by rw [hhe, hN0])
        have HNE := hide hne
        have HO1 := hide ho1
        have HJ := hide hj
        have HJN : Hid (j = N0) := hide (by omega)
        have HBL := hide hbl
        have H123 := hide (And.intro h1 (And.intro h2 h3))
        have HN0 := hide hN0
        clear HC hC hQl hjN hhe hcle h1 h2 h3 hj hne ho1 hbl hN0
        go_wp2_with (at_builtin; refine wpList_append_lies _ rfl _ _ _ rfl 0 121 i1 (.slice none 0 0) 1 24 Tryd.underlying67 hi1 hz1 hs1 hb1 rfl (by decide) (.slice ha N0 hc0) N0 (Qr.map (·.1)) rfl (unhide HO1) ⟨wr.heap.size, 0, none⟩ 1 1 [.slice none 0 0] rfl rfl (cell_one_new _ _ _) (fun u hu => by obtain rfl := List.mem_singleton.1 hu; rfl) (by decide) ?c3 ?c4 (Nat.zero_le _) (wr.heap.size + 1) (size_alloc _ _) ?_)
        case c3 => unfold maxLen; omega
        case c4 => omega
        intro b hc w2 own2 grow2 lies2 lt2
        have on2 : Only (fun k => (Value.slice ha N0 hc0).ownBlock = some k) wr w2 := (Only.alloc (Only.refl _ wr) _).trans (grown_only grow2)
        have k2 := on2.cell (q := ⟨g, 2, none⟩) (fun e => unhide HNE _ e rfl) c2
        have z22 : w2.frozen? ⟨g, 2, none⟩ = false := (World.frozen?_of_block (on2.block g hgl (fun e => unhide HNE _ e rfl))).trans z2
        obtain ⟨τ2, old2, L2⟩ := (unhide HCC).lg.growH (hv' := .slice (some ⟨b, 0, none⟩) (N0 + 1) hc) (w2 := w2) (by rw [unhide HH]; exact on2) (by rw [unhide HN0]; exact own2) (fun k hk => by
          have : b = k := by simpa [Value.ownBlock] using hk
          subst this
          rw [unhide HH]
          rcases lies2 with q | q
          · exact .inl q
          · exact .inr (by omega))
        have hC := unhide HCC
        have o3 : Only (fun k => k = g) w2 (w2.setCell ⟨g, 2, none⟩ (.slice (some ⟨b, 0, none⟩) (N0 + 1) hc)) := (Only.refl _ _).set g 2 _ rfl
        have hsg : w.heap.size ≠ g := fun e => by have := hC.far; rw [e, hC.lg.tg] at this; omega
        have hsv : (Value.slice ha N0 hc0).ownBlock ≠ some w.heap.size := fun e => by
          have := hC.lg.th _ (by rw [unhide HH]; exact e)
          rw [hC.far] at this
          omega
        have HCB : Hid (Cb w (w2.setCell ⟨g, 2, none⟩ (.slice (some ⟨b, 0, none⟩) (N0 + 1) hc)) τ g ev P E d j τ2 b (N0 + 1) hc (Qr ++ [(.slice none 0 0, [])]) sr none 0 0) := hide {
          lg := L2
          nl := by rw [List.length_append, unhide HN0]; rfl
          jl := by have := unhide HJN; omega
          xj := by
            rw [List.getElem?_append_right (by rw [unhide HN0, unhide HJN]; exact Nat.le_refl _), unhide HN0, unhide HJN, Nat.sub_self, lvl_none (by rw [← unhide HJN]; exact unhide HBL)]
            rfl
          xl := by rw [lvl_none (unhide HBL)]; rfl
          old := fun k hk => by rw [old2 k (by have := hC.row.lt; omega)]; exact hC.old k hk
          far := by rw [old2 _ hC.row.lt]; exact hC.far
          row := (hC.row.only on2 hsv).only o3 hsg
          len := hC.len
          only := by
            refine hC.only.next (q := fun k => (Value.slice ha N0 hc0).ownBlock = some k ∨ k = g) ((on2.mono (fun i hi => .inl hi)).trans (o3.mono (fun i hi => .inr hi))) (fun i hi => ?_)
            by_cases hlt : i < w.heap.size
            · left
              have e := hC.old i hlt
              show τ i ≠ -1
              rw [← e]
              rcases hi with hi | hi
              · rw [hC.lg.th i (by rw [unhide HH]; exact hi)]; omega
              · rw [hi, hC.lg.tg]; omega
            · right; omega
          nx := fun v' => by
            rw [List.map_set, List.map_append, (unhide H123).1, List.map_singleton, midL_grow (unhide HBL), ← midL_new (unhide HBL) (unhide H123).2.1, lvl_more (unhide H123).2.1, ← (unhide H123).2.2, lvl_none (unhide HBL)]
            rfl
          dv := (unhide H123).2.1
          sv := (unhide H123).2.2 }
        clear on2 old2 L2 hC o3 hsg hsv own2 grow2 lies2 HCC HH HNE HO1 HBL H123
        go_wp2_with fail
        generalize w2.setCell ⟨g, 2, none⟩ (.slice (some ⟨b, 0, none⟩) (N0 + 1) hc) = W at *
        obtain ⟨xa, xn, xc, HCB⟩ : ∃ xa xn xc, Hid (Cb w W τ g ev P E d j τ2 b (N0 + 1) hc (Qr ++ [(.slice none 0 0, [])]) sr xa xn xc) := ⟨_, _, _, HCB⟩
        generalize Qr ++ [(Value.slice none 0 0, [])] = Q2 at *
        generalize N0 + 1 = N at *
        have hr := (unhide HCB).reads
        obtain ⟨SA, hSA⟩ : ∃ A, (bv sr).toArray = A := ⟨_, rfl⟩
        have hSl : (bv sr).length = 32 := by rw [bv_len, (unhide HCB).len.1]
        have asz : SA.size = 32 := by rw [← hSA, List.size_toArray, hSl]
        have hfold : ∀ Zx : Array Value, Zx.size = 32 → Array.foldl (fun (cs : Array Value) (x : Value × Nat) => cs.setIfInBounds x.2 x.1) Zx SA.zipIdx 0 32 = SA := fun Zx hz => fold_build SA Zx 32 asz hz
        have hld : (loadVar 43 ⟨w.heap.size, 0, none⟩).run Tryd.prog W.drew = .ok (.agg SA) W.drew := by
          rw [← hSA]
          exact run_loadVar_mid _ w.heap.size 0 43 (bv sr) _ ((World.rangeAt_drew _ _ _ _).2 hr.rs) Tryd.underlying43 rfl (size43 (unhide HCB).len.1)
        obtain ⟨i43, hi43, hz43, hs43, hb43⟩ := info_parts info43
        have hzz : (Value.agg (bv (List.replicate 32 0)).toArray).cells.size = 32 := by simp [Value.cells, bv]
        have hxs1 : xn ≤ 1001 := by
          have := (unhide HCB).xl
          rw [lvl_len] at this
          have := Nat.div_le_self E.length (2 ^ j)
          have := unhide HN
          omega
        have m1 : xn + 1 ≤ maxLen := by unfold maxLen; omega
        have m2 : (xn + 1) * 32 ≤ 140737488355328 := by omega
        have jI : (j : Int) < (N : Int) := by have := (unhide HCB).jl; omega
        have jN : j < N := (unhide HCB).jl
        have xo2 : (W.drew.alloc (.cells SA 43)).ownsRow 0 43 32 (.slice xa xn xc) xn (bv (lvl E j).flatten) := by
          have h1 := ((unhide HCB).lg.qo j _ (unhide HCB).xj).1
          have h2 := own_only (w' := W.drew.alloc (.cells SA 43)) h1 (Only.alloc (Only.drew (Only.refl (fun _ => False) W)) (.cells SA 43)) (fun _ _ h => h)
          have h3 := (unhide HCB).xl
          rw [show ((Value.slice xa xn xc, lvl E j) : Value × List (List Nat)).2.length = xn from h3] at h2
          exact h2
        have nw : ∀ k u, (bv sr)[k]? = some u → (W.drew.alloc (.cells SA 43)).cell? ((⟨W.drew.heap.size, 0, none⟩ : Addr).add k) = some u := by
          intro k u hk
          rw [← hSA, add_plain, Nat.zero_add, (RowAt.new W.drew 43 (bv sr)).cell]
          exact hk
        have sz : (W.drew.alloc (.cells SA 43)).heap.size = W.heap.size + 1 := size_alloc _ _
        have HR := hide hr
        have HFO := hide hfold
        have HLD := hide hld
        have HXO := hide xo2
        have HNW := hide nw
        have HSA := hide hSA
        clear hr hfold hld xo2 nw hSA
        obtain ⟨I, hI⟩ : ∃ I : (Nat → Bool) → Act → World → Prop, I = fun dn a' w' => ∃ u : Nat → Value, a' = { tmps := #[.pointer (some ⟨g, 0, none⟩), .agg S, undef, .pointer (some ⟨w.heap.size, 0, none⟩), .int .i64 (j : Int), .bool true, .bool true, u7, u8, .int .i64 (j : Int), .pointer (some ⟨g, 0, none⟩), .pointer (some ⟨g, 0, none⟩), .pointer (some ⟨g, 2, none⟩), .slice ha N0 hc0, .int .i64 (N0 : Int), .bool true, .pointer (some ⟨g, 0, none⟩), .pointer (some ⟨g, 0, none⟩), .pointer (some ⟨g, 0, none⟩), .pointer (some ⟨g, 2, none⟩), .slice ha N0 hc0, .slice (some ⟨wr.heap.size, 0, none⟩) 1 1, .slice (some ⟨b, 0, none⟩) N hc, .pointer (some ⟨g, 0, none⟩), .pointer (some ⟨g, 2, none⟩), u 0, u 1, u 2, u 3, u 4, u 5, u 6, u 7, u 8, u 9, u 10, u 11, u 12, u 13, u 14, u 15, u41, u42, u43, u44, u45, u46, u47, u48, u49, u50, u51], defers := [] } ∧ Rg (rgV g b N hc j xn xc xa SA) W.drew SA b j (Gn W.drew (.slice xa xn xc) xn (bv (lvl E j).flatten) (bv sr)) dn u w' := ⟨_, rfl⟩
        have HI := hide hI
        clear hI
        refine wp_region_inv I (by kernel_rfl) (by kernel_rfl) ?_ ?_ ?_
        · rw [unhide HI]
          exact ⟨fun i => [u25, u26, u27, u28, u29, u30, u31, u32, u33, u34, u35, u36, u37, u38, u39, u40].getD i undef, rfl, Rg.start _⟩
        · intro dn a' w' i hId hi17 hdn hdep
          rw [unhide HI] at hId
          obtain ⟨u, rfl, h⟩ := hId
          have hi18 : i < 17 := hi17
          have H := hide h
          clear h
          rcases (by omega : i = 0 ∨ i = 1 ∨ i = 2 ∨ i = 3 ∨ i = 4 ∨ i = 5 ∨ i = 6 ∨ i = 7 ∨ i = 8 ∨ i = 9 ∨ i = 10 ∨ i = 11 ∨ i = 12 ∨ i = 13 ∨ i = 14 ∨ i = 15 ∨ i = 16) with rfl | rfl | rfl | rfl | rfl | rfl | rfl | rfl | rfl | rfl | rfl | rfl | rfl | rfl | rfl | rfl | rfl
          · have h16 := (unhide H).not16 (k := 0) (by decide) hdn
            refine wpOp_of rfl rfl ?_
            go_wp2_with fail
            rw [unhide HI]
            refine ⟨fun i => if i = 0 then rgV g b N hc j xn xc xa SA 0 else u i, ?_, (unhide H).pure 0 (by decide) (by decide) (by decide) hdn⟩
            simp [rgV]
          · have d0 := hdep _ rfl { on := 0, ground := .data } (by simp) rfl
            have e0 : u 0 = _ := (unhide H).val 0 (by decide) (by decide) (by decide) d0
            simp only [rgV] at e0
            have h16 := (unhide H).not16 (k := 1) (by decide) hdn
            refine wpOp_of rfl rfl ?_
            go_wp2_with fail
            rw [unhide HI]
            refine ⟨fun i => if i = 1 then rgV g b N hc j xn xc xa SA 1 else u i, ?_, (unhide H).pure 1 (by decide) (by decide) (by decide) hdn⟩
            simp [rgV, e0]
          · have d1 := hdep _ rfl { on := 1, ground := .data } (by simp) rfl
            have e1 : u 1 = _ := (unhide H).val 1 (by decide) (by decide) (by decide) d1
            simp only [rgV] at e1
            have h16 := (unhide H).not16 (k := 2) (by decide) hdn
            refine wpOp_of rfl rfl ?_
            go_wp2_with fail
            rw [unhide HI]
            refine ⟨fun i => if i = 2 then rgV g b N hc j xn xc xa SA 2 else u i, ?_, (unhide H).pure 2 (by decide) (by decide) (by decide) hdn⟩
            simp [rgV, e1]
          · have d2 := hdep _ rfl { on := 2, ground := .data } (by simp) rfl
            have e2 : u 2 = _ := (unhide H).val 2 (by decide) (by decide) (by decide) d2
            simp only [rgV] at e2
            have h16 := (unhide H).not16 (k := 3) (by decide) hdn
            have g2 : w'.cell? ⟨g, 2, none⟩ = some (.slice (some ⟨b, 0, none⟩) N hc) := ((unhide H).cellB h16 (a := ⟨g, 2, none⟩) (unhide HR).gl (fun e => ((unhide HR).xb _ e).2.1 rfl)).1.trans (unhide HR).g2
            refine wpOp_of rfl rfl ?_
            go_wp2_with fail
            rw [unhide HI]
            refine ⟨fun i => if i = 3 then rgV g b N hc j xn xc xa SA 3 else u i, ?_, (unhide H).pure 3 (by decide) (by decide) (by decide) hdn⟩
            simp [rgV, e2]
          · have h16 := (unhide H).not16 (k := 4) (by decide) hdn
            refine wpOp_of rfl rfl ?_
            go_wp2_with fail
            rw [unhide HI]
            refine ⟨fun i => if i = 4 then rgV g b N hc j xn xc xa SA 4 else u i, ?_, (unhide H).pure 4 (by decide) (by decide) (by decide) hdn⟩
            simp [rgV]
          · have h16 := (unhide H).not16 (k := 5) (by decide) hdn
            refine wpOp_of rfl rfl ?_
            go_wp2_with fail
            rw [unhide HI]
            refine ⟨fun i => if i = 5 then rgV g b N hc j xn xc xa SA 5 else u i, ?_, (unhide H).pure 5 (by decide) (by decide) (by decide) hdn⟩
            simp [rgV]
          · have d5 := hdep _ rfl { on := 5, ground := .data } (by simp) rfl
            have e5 : u 5 = _ := (unhide H).val 5 (by decide) (by decide) (by decide) d5
            simp only [rgV] at e5
            have h16 := (unhide H).not16 (k := 6) (by decide) hdn
            refine wpOp_of rfl rfl ?_
            go_wp2_with fail
            rw [unhide HI]
            refine ⟨fun i => if i = 6 then rgV g b N hc j xn xc xa SA 6 else u i, ?_, (unhide H).pure 6 (by decide) (by decide) (by decide) hdn⟩
            simp [rgV, e5]
          · have d6 := hdep _ rfl { on := 6, ground := .data } (by simp) rfl
            have e6 : u 6 = _ := (unhide H).val 6 (by decide) (by decide) (by decide) d6
            simp only [rgV] at e6
            have h16 := (unhide H).not16 (k := 7) (by decide) hdn
            refine wpOp_of rfl rfl ?_
            go_wp2_with fail
            rw [unhide HI]
            refine ⟨fun i => if i = 7 then rgV g b N hc j xn xc xa SA 7 else u i, ?_, (unhide H).pure 7 (by decide) (by decide) (by decide) hdn⟩
            simp [rgV, e6]
          · have d7 := hdep _ rfl { on := 7, ground := .data } (by simp) rfl
            have e7 : u 7 = _ := (unhide H).val 7 (by decide) (by decide) (by decide) d7
            simp only [rgV] at e7
            have h16 := (unhide H).not16 (k := 8) (by decide) hdn
            have g2 : w'.cell? ⟨g, 2, none⟩ = some (.slice (some ⟨b, 0, none⟩) N hc) := ((unhide H).cellB h16 (a := ⟨g, 2, none⟩) (unhide HR).gl (fun e => ((unhide HR).xb _ e).2.1 rfl)).1.trans (unhide HR).g2
            refine wpOp_of rfl rfl ?_
            go_wp2_with fail
            rw [unhide HI]
            refine ⟨fun i => if i = 8 then rgV g b N hc j xn xc xa SA 8 else u i, ?_, (unhide H).pure 8 (by decide) (by decide) (by decide) hdn⟩
            simp [rgV, e7]
          · have h16 := (unhide H).not16 (k := 9) (by decide) hdn
            refine wpOp_of rfl rfl ?_
            go_wp2_with fail
            rw [unhide HI]
            refine ⟨fun i => if i = 9 then rgV g b N hc j xn xc xa SA 9 else u i, ?_, (unhide H).pure 9 (by decide) (by decide) (by decide) hdn⟩
            simp [rgV]
          · have d8 := hdep _ rfl { on := 8, ground := .data } (by simp) rfl
            have d9 := hdep _ rfl { on := 9, ground := .data } (by simp) rfl
            have e8 : u 8 = _ := (unhide H).val 8 (by decide) (by decide) (by decide) d8
            simp only [rgV] at e8
            have e9 : u 9 = _ := (unhide H).val 9 (by decide) (by decide) (by decide) d9
            simp only [rgV] at e9
            have h16 := (unhide H).not16 (k := 10) (by decide) hdn
            refine wpOp_of rfl rfl ?_
            go_wp2_with fail
            rw [unhide HI]
            refine ⟨fun i => if i = 10 then rgV g b N hc j xn xc xa SA 10 else u i, ?_, (unhide H).pure 10 (by decide) (by decide) (by decide) hdn⟩
            simp [rgV, e8, e9]
          · have d10 := hdep _ rfl { on := 10, ground := .data } (by simp) rfl
            have e10 : u 10 = _ := (unhide H).val 10 (by decide) (by decide) (by decide) d10
            simp only [rgV] at e10
            have h16 := (unhide H).not16 (k := 11) (by decide) hdn
            have bj : w'.cell? ⟨b, j, none⟩ = some (.slice xa xn xc) := ((unhide H).cellB h16 (a := ⟨b, j, none⟩) (unhide HR).bl (fun e => ((unhide HR).xb _ e).1 rfl)).1.trans (unhide HR).bj
            refine wpOp_of rfl rfl ?_
            go_wp2_with fail
            rw [unhide HI]
            refine ⟨fun i => if i = 11 then rgV g b N hc j xn xc xa SA 11 else u i, ?_, (unhide H).pure 11 (by decide) (by decide) (by decide) hdn⟩
            simp [rgV, e10]
          · have h16 := (unhide H).not16 (k := 12) (by decide) hdn
            have h13 : dn 13 = false := by
              cases hc13 : dn 13 with
              | false => rfl
              | true => rw [(unhide H).c13 hc13] at hdn; cases hdn
            obtain rfl := (unhide H).a0 h13
            refine wpOp_of rfl rfl ?_
            refine wp_load_of 43 _ rfl ⟨w.heap.size, 0, none⟩ rfl _ (unhide HLD) ?_
            rw [unhide HI]
            exact ⟨fun i => if i = 12 then .agg SA else u i, rfl, (unhide H).pure 12 (by decide) (by decide) (by decide) hdn⟩
          · have d12 := hdep _ rfl { on := 12, ground := .data } (by simp) rfl
            have e12 : u 12 = _ := (unhide H).val 12 (by decide) (by decide) (by decide) d12
            simp only [rgV] at e12
            have h16 := (unhide H).not16 (k := 13) (by decide) hdn
            obtain rfl := (unhide H).a0 hdn
            refine wpOp_of rfl rfl ?_
            have e12 : u 12 = _ := (unhide H).val 12 (by decide) (by decide) (by decide) d12
            simp only [rgV] at e12
            go_wp2_with fail
            rw [unhide HFO _ rfl, unhide HI]
            refine ⟨fun i => if i = 13 then .slice (some ⟨W.drew.heap.size, 0, none⟩) 1 1 else u i, ?_, by exact (unhide H).s13 hdn d12⟩
            simp [e12]
          · have d11 := hdep _ rfl { on := 11, ground := .data } (by simp) rfl
            have d13 := hdep _ rfl { on := 13, ground := .data } (by simp) rfl
            have e11 : u 11 = _ := (unhide H).val 11 (by decide) (by decide) (by decide) d11
            simp only [rgV] at e11
            have h16 := (unhide H).not16 (k := 14) (by decide) hdn
            obtain ⟨rfl, e13⟩ := (unhide H).a1 d13 hdn
            refine wpOp_of rfl rfl ?_
            refine wp_append_lies _ _ _ _ rfl 0 43 i43 (.agg (bv (List.replicate 32 0)).toArray) 32 32 Tryd.underlying121 hi43 hz43 hs43 hb43 hzz (by decide) (.slice xa xn xc) xn (bv (lvl E j).flatten) e11 (unhide HXO) ⟨W.drew.heap.size, 0, none⟩ 1 1 (bv sr) e13 (by rw [hSl]) (unhide HNW) (bv_one _) (by decide) m1 m2 (Nat.zero_le _) (W.heap.size + 1) sz ?_
            intro gn cap w3 own3 grow3 lies3 lt3
            rw [unhide HI]
            refine ⟨fun i => if i = 14 then .slice (some ⟨gn, 0, none⟩) (xn + 1) cap else u i, rfl, (unhide H).s14 hdn d11 d13 ⟨gn, cap, rfl, own3, (Only.alloc (Only.refl _ W.drew) _).trans (grown_only grow3), ?_⟩⟩
            rcases lies3 with q | q
            · exact .inl q
            · right
              show W.heap.size ≤ gn
              omega
          · have d3 := hdep _ rfl { on := 3, ground := .data } (by simp) rfl
            have d4 := hdep _ rfl { on := 4, ground := .data } (by simp) rfl
            have e3 : u 3 = _ := (unhide H).val 3 (by decide) (by decide) (by decide) d3
            simp only [rgV] at e3
            have e4 : u 4 = _ := (unhide H).val 4 (by decide) (by decide) (by decide) d4
            simp only [rgV] at e4
            have h16 := (unhide H).not16 (k := 15) (by decide) hdn
            refine wpOp_of rfl rfl ?_
            go_wp2_with fail
            rw [unhide HI]
            refine ⟨fun i => if i = 15 then rgV g b N hc j xn xc xa SA 15 else u i, ?_, (unhide H).pure 15 (by decide) (by decide) (by decide) hdn⟩
            simp [rgV, e3, e4]
          · have hall : ∀ k, k < 16 → dn k = true := by
              intro k hk
              have : k = 0 ∨ k = 1 ∨ k = 2 ∨ k = 3 ∨ k = 4 ∨ k = 5 ∨ k = 6 ∨ k = 7 ∨ k = 8 ∨ k = 9 ∨ k = 10 ∨ k = 11 ∨ k = 12 ∨ k = 13 ∨ k = 14 ∨ k = 15 := by omega
              rcases this with rfl | rfl | rfl | rfl | rfl | rfl | rfl | rfl | rfl | rfl | rfl | rfl | rfl | rfl | rfl | rfl
              · exact hdep _ rfl { on := 0, ground := .phase } (by simp) rfl
              · exact hdep _ rfl { on := 1, ground := .phase } (by simp) rfl
              · exact hdep _ rfl { on := 2, ground := .phase } (by simp) rfl
              · exact hdep _ rfl { on := 3, ground := .phase } (by simp) rfl
              · exact hdep _ rfl { on := 4, ground := .phase } (by simp) rfl
              · exact hdep _ rfl { on := 5, ground := .phase } (by simp) rfl
              · exact hdep _ rfl { on := 6, ground := .phase } (by simp) rfl
              · exact hdep _ rfl { on := 7, ground := .phase } (by simp) rfl
              · exact hdep _ rfl { on := 8, ground := .phase } (by simp) rfl
              · exact hdep _ rfl { on := 9, ground := .phase } (by simp) rfl
              · exact hdep _ rfl { on := 10, ground := .phase } (by simp) rfl
              · exact hdep _ rfl { on := 11, ground := .phase } (by simp) rfl
              · exact hdep _ rfl { on := 12, ground := .phase } (by simp) rfl
              · exact hdep _ rfl { on := 13, ground := .phase } (by simp) rfl
              · exact hdep _ rfl { on := 14, ground := .phase } (by simp) rfl
              · exact hdep _ rfl { on := 15, ground := .data } (by simp) rfl
            have e15 : u 15 = _ := (unhide H).val 15 (by decide) (by decide) (by decide) (hall 15 (by decide))
            simp only [rgV] at e15
            obtain ⟨gn, cap, e14, _, hon, _⟩ := (unhide H).a2 (hall 14 (by decide)) hdn
            obtain ⟨q1, q2⟩ := (unhide H).cellB hdn (a := ⟨b, j, none⟩) (unhide HR).bl (fun e => ((unhide HR).xb _ e).1 rfl)
            have q3 := q1.trans (unhide HR).bj
            have q4 := q2.trans (unhide HR).zb
            have HE14 := hide e14
            clear q1 q2 hon e14
            refine wpOp_of rfl rfl ?_
            have e14 := unhide HE14
            go_wp2_with fail
            rw [unhide HI]
            refine ⟨u, ?_, ?_⟩
            · simp [e14, e15]
            · have q := (unhide H).s16 hdn hall
              rw [e14] at q
              exact q
        · intro dn a' w' hId hall
          rw [unhide HI] at hId
          obtain ⟨u, rfl, h⟩ := hId
          have H := hide h
          clear h
          obtain ⟨w3, hG, rfl⟩ := (unhide H).a3 (hall 16 (by decide))
          obtain ⟨τ3, L3, old3, far3, row3, only3⟩ := (unhide HCB).put hG
          obtain ⟨gn, cap, hv, -, -, -⟩ := hG
          dsimp only
          clear H hall HI
          generalize u 14 = v' at *
          subst hv
          have q2 : (w3.setCell ⟨b, j, none⟩ (.slice (some ⟨gn, 0, none⟩) (xn + 1) cap)).cell? ⟨g, 2, none⟩ = some (.slice (some ⟨b, 0, none⟩) N hc) := L3.row.cell 2
          have qb : (w3.setCell ⟨b, j, none⟩ (.slice (some ⟨gn, 0, none⟩) (xn + 1) cap)).cell? ⟨b, j, none⟩ = some (.slice (some ⟨gn, 0, none⟩) (xn + 1) cap) := by
            have ho3 := L3.ho
            rw [List.length_set, (unhide HCB).nl] at ho3
            have := ho3.cellAt j (by omega)
            rw [this, List.getElem?_map, List.getElem?_set_self (by rw [(unhide HCB).nl]; exact jN)]
            rfl
          have HL3 := hide L3
          have HO3 := hide old3
          have HF3 := hide far3
          have HR3 := hide row3
          have HY3 := hide only3
          clear L3 old3 far3 row3 only3 HR HFO HLD HXO HNW HSA
          generalize u 0 = y0 at *
          generalize u 1 = y1 at *
          generalize u 2 = y2 at *
          generalize u 3 = y3 at *
          generalize u 4 = y4 at *
          generalize u 5 = y5 at *
          generalize u 6 = y6 at *
          generalize u 7 = y7 at *
          generalize u 8 = y8 at *
          generalize u 9 = y9 at *
          generalize u 10 = y10 at *
          generalize u 11 = y11 at *
          generalize u 12 = y12 at *
          generalize u 13 = y13 at *
          generalize u 15 = y15 at *
          generalize w3.setCell ⟨b, j, none⟩ (.slice (some ⟨gn, 0, none⟩) (xn + 1) cap) = W5 at *
          go_wp2_with fail
          have hLL : lvl E j ++ [sr] = lvl (E ++ [d]) j := by rw [lvl_more (unhide HCB).dv, ← (unhide HCB).sv]
          have hEl : (E ++ [d]).length = E.length + 1 := by simp
          have hln : (E.length + 1) / 2 ^ j = xn + 1 := by
            have h1 := congrArg List.length hLL
            rw [lvl_len, hEl, List.length_append, (unhide HCB).xl] at h1
            simpa using h1.symm
          have T5 : Tabs W5 := (unhide HT).only (unhide HY3) (fun k hk => unhide HTA k hk)
          have q5 := ((unhide HL3).qo j _ (List.getElem?_set_self (by rw [(unhide HCB).nl]; exact jN))).1
          have ql5 := (unhide HL3).ql j _ (List.getElem?_set_self (by rw [(unhide HCB).nl]; exact jN))
          have hll : (lvl E j ++ [sr]).length = xn + 1 := by rw [List.length_append, (unhide HCB).xl]; rfl
          have S5 : SS W5 ⟨gn, 0, none⟩ (lvl E j ++ [sr]) := SS.of_own (cap := cap) (by
            have h := q5
            simp only [] at h
            rw [hll] at h ⊢
            exact h) ql5
          obtain ⟨SB, hSB⟩ : ∃ A, (bv sr).toArray = A := ⟨_, rfl⟩
          have HSB : Hid (SB.size = 32) := hide (by rw [← hSB, List.size_toArray, hSl])
          have HSE := hide hSB
          have HNX : Hid ((Q2.set j (.slice (some ⟨gn, 0, none⟩) (xn + 1) cap, lvl E j ++ [sr])).map (·.2) = midL E d (j + 1)) := hide ((unhide HCB).nx _)
          by_cases par : (xn + 1) % 2 = 1
          · have HPO := hide (pair_odd (some ⟨gn, 0, none⟩) (xn + 1) cap W5 par (by omega))
            have hlast : ¬ 2 ^ (j + 1) ∣ E.length + 1 := fun hd => by
              have := (even_dvd (unhide HCB).dv).2 hd
              rw [hln] at this
              omega
            have HLAST := hide hlast
            have HDV := hide (unhide HCB).dv
            clear hlast hLL hEl hln T5 q5 ql5 hll S5 hSB par
            refine Calls.mono (unhide HPO) ?_
            rintro e W6 ⟨rfl, b6⟩
            obtain ⟨Z0, hZ0⟩ : ∃ A, (bv (List.replicate 32 0)).toArray = A := ⟨_, rfl⟩
            have HZS : Hid (Z0.size = 32) := hide (by rw [← hZ0, List.size_toArray, bv_len, List.length_replicate])
            have HZO : Hid (Z0.all (·.oneCell') = true) := hide (hZ0 ▸ one_bv _)
            have HZE := hide hZ0
            rw [hZ0]
            have HE2 := hide (((unhide HR3).below b6 (unhide HR3).lt).arr (unhide HSE))
            have HB6 := hide b6
            clear hZ0 b6 HPO
            go_wp2_with (refine wpList_store_row rfl 43 _ _ rfl w.heap.size Z0 rfl rfl 43 SB (unhide HE2) (by rw [z27, unhide HZS]) (by rw [unhide HZS, unhide HSB]) (unhide HZO) ?_)
            go_roundw
            case rel =>
              refine ⟨j + 1, false, by go_num, rfl, hide ⟨⟨by omega, fun h => by cases h⟩, τ3, (.slice (some ⟨b, 0, none⟩) N hc), (Q2.set j (.slice (some ⟨gn, 0, none⟩) (xn + 1) cap, lvl E j ++ [sr])), List.replicate 32 0, ?_⟩⟩
              have o7 : Only (fun k => k = w.heap.size) W6 (W6.setRow w.heap.size Z0) := Only.setRowA (Only.refl _ _) _ _ rfl
              exact {
                lg := ((unhide HL3).call (unhide HB6)).only (o7.mono (fun k hk => by show τ3 k = -1; rw [hk]; exact unhide HF3))
                old := unhide HO3
                far := unhide HF3
                row := by
                  show (W6.setRow w.heap.size Z0).heap[w.heap.size]? = some (.cells _ 43 (0, 0))
                  rw [unhide HZE]
                  exact setRow_heap _ _ _ _ _ _ (unhide HE2)
                len := ⟨List.length_replicate .., fun y hy => by rw [List.eq_of_mem_replicate hy]; decide⟩
                only := (unhide HY3).next (q := fun k => k = w.heap.size) ((Only.of_below (unhide HB6)).trans o7) (fun i hi => .inr (by omega))
                yes := fun h => by cases h
                no := fun _ => by rw [unhide HNX, midL_last (unhide HDV) (unhide HLAST)] }
            case measure => simp [intOf]; omega
          · have hev : (xn + 1) % 2 = 0 := by omega
            have hdv : 2 ^ (j + 1) ∣ E.length + 1 := (even_dvd (unhide HCB).dv).1 (by rw [hln]; exact hev)
            obtain ⟨x1, x2, hx1, hx2, hx3, hx4⟩ := pair_last (E := E ++ [d]) (h := j) (by rw [hEl]; exact hdv) (by rw [hEl]; omega)
            rw [hEl, hln] at hx1 hx2 hx3
            rw [← hLL] at hx1 hx2
            have HPE := hide (pair_even gn (xn + 1) cap (lvl E j ++ [sr]) x1 x2 W5 T5 hev hx3 (by omega) S5 hll hx1 hx2)
            have hj1 : j + 1 ≤ 20 := by
              have h1 := Nat.le_of_dvd (by omega) hdv
              have h2 := unhide HN
              by_cases hq : j + 1 ≤ 20
              · exact hq
              · have := Nat.pow_le_pow_right (n := 2) (by decide) (show 21 ≤ j + 1 by omega)
                omega
            have x8 : U8 (knotL x1 x2) := sumL_8 _ _
            obtain ⟨K, hK⟩ : ∃ K, knotL x1 x2 = K := ⟨_, rfl⟩
            have HKL : Hid (K.length = 32) := hide (by rw [← hK, knotL_len])
            rw [hK] at HPE x8 hx4
            rw [hEl] at hx4
            have HK8 := hide x8
            have HX4 := hide hx4
            have HDV := hide hdv
            have HJ1 := hide hj1
            clear hLL hEl hln T5 q5 ql5 hll S5 hSB par hev hdv hx1 hx2 hx3 hx4 hj1 x8 hK
            refine Calls.mono (unhide HPE) ?_
            rintro e W6 ⟨rfl, b6⟩
            obtain ⟨Z0, hZ0⟩ : ∃ A, (bv K).toArray = A := ⟨_, rfl⟩
            have HZS : Hid (Z0.size = 32) := hide (by rw [← hZ0, List.size_toArray, bv_len, unhide HKL])
            have HZO : Hid (Z0.all (·.oneCell') = true) := hide (hZ0 ▸ one_bv _)
            have HZE := hide hZ0
            rw [hZ0]
            have HE2 := hide (((unhide HR3).below b6 (unhide HR3).lt).arr (unhide HSE))
            have HB6 := hide b6
            clear hZ0 b6 HPE
            go_wp2_with (refine wpList_store_row rfl 43 _ _ rfl w.heap.size Z0 rfl rfl 43 SB (unhide HE2) (by rw [z27, unhide HZS]) (by rw [unhide HZS, unhide HSB]) (unhide HZO) ?_)
            go_roundw
            case rel =>
              refine ⟨j + 1, true, by go_num, rfl, hide ⟨⟨by have := unhide HJ1; omega, fun _ => unhide HJ1⟩, τ3, (.slice (some ⟨b, 0, none⟩) N hc), (Q2.set j (.slice (some ⟨gn, 0, none⟩) (xn + 1) cap, lvl E j ++ [sr])), K, ?_⟩⟩
              have o7 : Only (fun k => k = w.heap.size) W6 (W6.setRow w.heap.size Z0) := Only.setRowA (Only.refl _ _) _ _ rfl
              exact {
                lg := ((unhide HL3).call (unhide HB6)).only (o7.mono (fun k hk => by show τ3 k = -1; rw [hk]; exact unhide HF3))
                old := unhide HO3
                far := unhide HF3
                row := by
                  show (W6.setRow w.heap.size Z0).heap[w.heap.size]? = some (.cells _ 43 (0, 0))
                  rw [unhide HZE]
                  exact setRow_heap _ _ _ _ _ _ (unhide HE2)
                len := ⟨unhide HKL, unhide HK8⟩
                only := (unhide HY3).next (q := fun k => k = w.heap.size) ((Only.of_below (unhide HB6)).trans o7) (fun i hi => .inr (by omega))
                yes := fun _ => ⟨unhide HNX, unhide HDV, unhide HX4⟩
                no := fun h => by cases h }
            case measure => simp [intOf]; have := unhide HJ1; omega
      · have hjl : j < Qr.length := by omega
        obtain ⟨b, hc, hhe, hcle⟩ := own_some hC.lg.ho (by omega : 0 < Qr.length)
        obtain ⟨⟨xv, xl⟩, hx⟩ : ∃ x, Qr[j]? = some x := ⟨Qr[j], List.getElem?_eq_getElem hjl⟩
        obtain ⟨xa, xc, hxs, hxc⟩ := own_shape (hC.lg.qo j _ hx).1
        obtain ⟨h1, h2, h3⟩ := hC.yes rfl
        have hxl : xl = lvl E j := by
          have h4 : (Qr.map (·.2))[j]? = some xl := by rw [List.getElem?_map, hx]; rfl
          rw [h1, midL_get (by omega), if_neg (by omega)] at h4
          exact (Option.some.inj h4).symm
        subst hxl
        obtain ⟨xn, hxn⟩ : ∃ n, (lvl E j).length = n := ⟨_, rfl⟩
        obtain ⟨N, hN⟩ : ∃ N, Qr.length = N := ⟨_, rfl⟩
        have HCB : Hid (Cb w wr τ g ev P E d j τr b N hc Qr sr xa xn xc) := hide {
          lg := by rw [← hN, ← hhe]; exact hC.lg
          nl := hN
          jl := by omega
          xj := by rw [hx, ← hxn, ← hxs]
          xl := hxn
          old := hC.old
          far := hC.far
          row := hC.row
          len := hC.len
          only := hC.only
          nx := fun v' => by
            rw [List.map_set, h1, ← midL_old (by omega : j < bl E.length), lvl_more h2]
            rw [← h3]
          dv := h2
          sv := h3 }
        have c2 : wr.cell? ⟨g, 2, none⟩ = some (.slice (some ⟨b, 0, none⟩) N hc) := by have := hC.lg.row.cell 2; rw [hhe, hN] at this; exact this
        have t1 : ((j : Int) == (N : Int)) = false := beq_eq_false_iff_ne.2 (by omega)
        have jb : (j : Int) ≤ 20 := by have := hj.2 rfl; omega
        have HJ := hide hj
        clear HC hC hQl hjN hjl hhe hcle hx hxs hxc h1 h2 h3 hxn hN hj
        have hr := (unhide HCB).reads
        obtain ⟨SA, hSA⟩ : ∃ A, (bv sr).toArray = A := ⟨_, rfl⟩
        have hSl : (bv sr).length = 32 := by rw [bv_len, (unhide HCB).len.1]
        have asz : SA.size = 32 := by rw [← hSA, List.size_toArray, hSl]
        have hfold : ∀ Zx : Array Value, Zx.size = 32 → Array.foldl (fun (cs : Array Value) (x : Value × Nat) => cs.setIfInBounds x.2 x.1) Zx SA.zipIdx 0 32 = SA := fun Zx hz => fold_build SA Zx 32 asz hz
        have hld : (loadVar 43 ⟨w.heap.size, 0, none⟩).run Tryd.prog wr.drew = .ok (.agg SA) wr.drew := by
          rw [← hSA]
          exact run_loadVar_mid _ w.heap.size 0 43 (bv sr) _ ((World.rangeAt_drew _ _ _ _).2 hr.rs) Tryd.underlying43 rfl (size43 (unhide HCB).len.1)
        obtain ⟨i43, hi43, hz43, hs43, hb43⟩ := info_parts info43
        have hzz : (Value.agg (bv (List.replicate 32 0)).toArray).cells.size = 32 := by simp [Value.cells, bv]
        have hxs1 : xn ≤ 1001 := by
          have := (unhide HCB).xl
          rw [lvl_len] at this
          have := Nat.div_le_self E.length (2 ^ j)
          have := unhide HN
          omega
        have m1 : xn + 1 ≤ maxLen := by unfold maxLen; omega
        have m2 : (xn + 1) * 32 ≤ 140737488355328 := by omega
        have jI : (j : Int) < (N : Int) := by have := (unhide HCB).jl; omega
        have jN : j < N := (unhide HCB).jl
        have xo2 : (wr.drew.alloc (.cells SA 43)).ownsRow 0 43 32 (.slice xa xn xc) xn (bv (lvl E j).flatten) := by
          have h1 := ((unhide HCB).lg.qo j _ (unhide HCB).xj).1
          have h2 := own_only (w' := wr.drew.alloc (.cells SA 43)) h1 (Only.alloc (Only.drew (Only.refl (fun _ => False) wr)) (.cells SA 43)) (fun _ _ h => h)
          have h3 := (unhide HCB).xl
          rw [show ((Value.slice xa xn xc, lvl E j) : Value × List (List Nat)).2.length = xn from h3] at h2
          exact h2
        have nw : ∀ k u, (bv sr)[k]? = some u → (wr.drew.alloc (.cells SA 43)).cell? ((⟨wr.drew.heap.size, 0, none⟩ : Addr).add k) = some u := by
          intro k u hk
          rw [← hSA, add_plain, Nat.zero_add, (RowAt.new wr.drew 43 (bv sr)).cell]
          exact hk
        have sz : (wr.drew.alloc (.cells SA 43)).heap.size = wr.heap.size + 1 := size_alloc _ _
        have HR := hide hr
        have HFO := hide hfold
        have HLD := hide hld
        have HXO := hide xo2
        have HNW := hide nw
        have HSA := hide hSA
        clear hr hfold hld xo2 nw hSA
        go_wp2_with fail
        obtain ⟨I, hI⟩ : ∃ I : (Nat → Bool) → Act → World → Prop, I = fun dn a' w' => ∃ u : Nat → Value, a' = { tmps := #[.pointer (some ⟨g, 0, none⟩), .agg S, undef, .pointer (some ⟨w.heap.size, 0, none⟩), .int .i64 (j : Int), .bool true, .bool true, u7, u8, .int .i64 (j : Int), .pointer (some ⟨g, 0, none⟩), .pointer (some ⟨g, 0, none⟩), .pointer (some ⟨g, 2, none⟩), .slice (some ⟨b, 0, none⟩) N hc, .int .i64 (N : Int), .bool false, u16, u17, u18, u19, u20, u21, u22, u23, u24, u 0, u 1, u 2, u 3, u 4, u 5, u 6, u 7, u 8, u 9, u 10, u 11, u 12, u 13, u 14, u 15, u41, u42, u43, u44, u45, u46, u47, u48, u49, u50, u51], defers := [] } ∧ Rg (rgV g b N hc j xn xc xa SA) wr.drew SA b j (Gn wr.drew (.slice xa xn xc) xn (bv (lvl E j).flatten) (bv sr)) dn u w' := ⟨_, rfl⟩
        have HI := hide hI
        clear hI
        refine wp_region_inv I (by kernel_rfl) (by kernel_rfl) ?_ ?_ ?_
        · rw [unhide HI]
          exact ⟨fun i => [u25, u26, u27, u28, u29, u30, u31, u32, u33, u34, u35, u36, u37, u38, u39, u40].getD i undef, rfl, Rg.start _⟩
        · intro dn a' w' i hId hi17 hdn hdep
          rw [unhide HI] at hId
          obtain ⟨u, rfl, h⟩ := hId
          have hi18 : i < 17 := hi17
          have H := hide h
          clear h
          rcases (by omega : i = 0 ∨ i = 1 ∨ i = 2 ∨ i = 3 ∨ i = 4 ∨ i = 5 ∨ i = 6 ∨ i = 7 ∨ i = 8 ∨ i = 9 ∨ i = 10 ∨ i = 11 ∨ i = 12 ∨ i = 13 ∨ i = 14 ∨ i = 15 ∨ i = 16) with rfl | rfl | rfl | rfl | rfl | rfl | rfl | rfl | rfl | rfl | rfl | rfl | rfl | rfl | rfl | rfl | rfl
          · have h16 := (unhide H).not16 (k := 0) (by decide) hdn
            refine wpOp_of rfl rfl ?_
            go_wp2_with fail
            rw [unhide HI]
            refine ⟨fun i => if i = 0 then rgV g b N hc j xn xc xa SA 0 else u i, ?_, (unhide H).pure 0 (by decide) (by decide) (by decide) hdn⟩
            simp [rgV]
          · have d0 := hdep _ rfl { on := 0, ground := .data } (by simp) rfl
            have e0 : u 0 = _ := (unhide H).val 0 (by decide) (by decide) (by decide) d0
            simp only [rgV] at e0
            have h16 := (unhide H).not16 (k := 1) (by decide) hdn
            refine wpOp_of rfl rfl ?_
            go_wp2_with fail
            rw [unhide HI]
            refine ⟨fun i => if i = 1 then rgV g b N hc j xn xc xa SA 1 else u i, ?_, (unhide H).pure 1 (by decide) (by decide) (by decide) hdn⟩
            simp [rgV, e0]
          · have d1 := hdep _ rfl { on := 1, ground := .data } (by simp) rfl
            have e1 : u 1 = _ := (unhide H).val 1 (by decide) (by decide) (by decide) d1
            simp only [rgV] at e1
            have h16 := (unhide H).not16 (k := 2) (by decide) hdn
            refine wpOp_of rfl rfl ?_
            go_wp2_with fail
            rw [unhide HI]
            refine ⟨fun i => if i = 2 then rgV g b N hc j xn xc xa SA 2 else u i, ?_, (unhide H).pure 2 (by decide) (by decide) (by decide) hdn⟩
            simp [rgV, e1]
          · have d2 := hdep _ rfl { on := 2, ground := .data } (by simp) rfl
            have e2 : u 2 = _ := (unhide H).val 2 (by decide) (by decide) (by decide) d2
            simp only [rgV] at e2
            have h16 := (unhide H).not16 (k := 3) (by decide) hdn
            have g2 : w'.cell? ⟨g, 2, none⟩ = some (.slice (some ⟨b, 0, none⟩) N hc) := ((unhide H).cellB h16 (a := ⟨g, 2, none⟩) (unhide HR).gl (fun e => ((unhide HR).xb _ e).2.1 rfl)).1.trans (unhide HR).g2
            refine wpOp_of rfl rfl ?_
            go_wp2_with fail
            rw [unhide HI]
            refine ⟨fun i => if i = 3 then rgV g b N hc j xn xc xa SA 3 else u i, ?_, (unhide H).pure 3 (by decide) (by decide) (by decide) hdn⟩
            simp [rgV, e2]
          · have h16 := (unhide H).not16 (k := 4) (by decide) hdn
            refine wpOp_of rfl rfl ?_
            go_wp2_with fail
            rw [unhide HI]
            refine ⟨fun i => if i = 4 then rgV g b N hc j xn xc xa SA 4 else u i, ?_, (unhide H).pure 4 (by decide) (by decide) (by decide) hdn⟩
            simp [rgV]
          · have h16 := (unhide H).not16 (k := 5) (by decide) hdn
            refine wpOp_of rfl rfl ?_
            go_wp2_with fail
            rw [unhide HI]
            refine ⟨fun i => if i = 5 then rgV g b N hc j xn xc xa SA 5 else u i, ?_, (unhide H).pure 5 (by decide) (by decide) (by decide) hdn⟩
            simp [rgV]
          · have d5 := hdep _ rfl { on := 5, ground := .data } (by simp) rfl
            have e5 : u 5 = _ := (unhide H).val 5 (by decide) (by decide) (by decide) d5
            simp only [rgV] at e5
            have h16 := (unhide H).not16 (k := 6) (by decide) hdn
            refine wpOp_of rfl rfl ?_
            go_wp2_with fail
            rw [unhide HI]
            refine ⟨fun i => if i = 6 then rgV g b N hc j xn xc xa SA 6 else u i, ?_, (unhide H).pure 6 (by decide) (by decide) (by decide) hdn⟩
            simp [rgV, e5]
          · have d6 := hdep _ rfl { on := 6, ground := .data } (by simp) rfl
            have e6 : u 6 = _ := (unhide H).val 6 (by decide) (by decide) (by decide) d6
            simp only [rgV] at e6
            have h16 := (unhide H).not16 (k := 7) (by decide) hdn
            refine wpOp_of rfl rfl ?_
            go_wp2_with fail
            rw [unhide HI]
            refine ⟨fun i => if i = 7 then rgV g b N hc j xn xc xa SA 7 else u i, ?_, (unhide H).pure 7 (by decide) (by decide) (by decide) hdn⟩
            simp [rgV, e6]
          · have d7 := hdep _ rfl { on := 7, ground := .data } (by simp) rfl
            have e7 : u 7 = _ := (unhide H).val 7 (by decide) (by decide) (by decide) d7
            simp only [rgV] at e7
            have h16 := (unhide H).not16 (k := 8) (by decide) hdn
            have g2 : w'.cell? ⟨g, 2, none⟩ = some (.slice (some ⟨b, 0, none⟩) N hc) := ((unhide H).cellB h16 (a := ⟨g, 2, none⟩) (unhide HR).gl (fun e => ((unhide HR).xb _ e).2.1 rfl)).1.trans (unhide HR).g2
            refine wpOp_of rfl rfl ?_
            go_wp2_with fail
            rw [unhide HI]
            refine ⟨fun i => if i = 8 then rgV g b N hc j xn xc xa SA 8 else u i, ?_, (unhide H).pure 8 (by decide) (by decide) (by decide) hdn⟩
            simp [rgV, e7]
          · have h16 := (unhide H).not16 (k := 9) (by decide) hdn
            refine wpOp_of rfl rfl ?_
            go_wp2_with fail
            rw [unhide HI]
            refine ⟨fun i => if i = 9 then rgV g b N hc j xn xc xa SA 9 else u i, ?_, (unhide H).pure 9 (by decide) (by decide) (by decide) hdn⟩
            simp [rgV]
          · have d8 := hdep _ rfl { on := 8, ground := .data } (by simp) rfl
            have d9 := hdep _ rfl { on := 9, ground := .data } (by simp) rfl
            have e8 : u 8 = _ := (unhide H).val 8 (by decide) (by decide) (by decide) d8
            simp only [rgV] at e8
            have e9 : u 9 = _ := (unhide H).val 9 (by decide) (by decide) (by decide) d9
            simp only [rgV] at e9
            have h16 := (unhide H).not16 (k := 10) (by decide) hdn
            refine wpOp_of rfl rfl ?_
            go_wp2_with fail
            rw [unhide HI]
            refine ⟨fun i => if i = 10 then rgV g b N hc j xn xc xa SA 10 else u i, ?_, (unhide H).pure 10 (by decide) (by decide) (by decide) hdn⟩
            simp [rgV, e8, e9]
          · have d10 := hdep _ rfl { on := 10, ground := .data } (by simp) rfl
            have e10 : u 10 = _ := (unhide H).val 10 (by decide) (by decide) (by decide) d10
            simp only [rgV] at e10
            have h16 := (unhide H).not16 (k := 11) (by decide) hdn
            have bj : w'.cell? ⟨b, j, none⟩ = some (.slice xa xn xc) := ((unhide H).cellB h16 (a := ⟨b, j, none⟩) (unhide HR).bl (fun e => ((unhide HR).xb _ e).1 rfl)).1.trans (unhide HR).bj
            refine wpOp_of rfl rfl ?_
            go_wp2_with fail
            rw [unhide HI]
            refine ⟨fun i => if i = 11 then rgV g b N hc j xn xc xa SA 11 else u i, ?_, (unhide H).pure 11 (by decide) (by decide) (by decide) hdn⟩
            simp [rgV, e10]
          · have h16 := (unhide H).not16 (k := 12) (by decide) hdn
            have h13 : dn 13 = false := by
              cases hc13 : dn 13 with
              | false => rfl
              | true => rw [(unhide H).c13 hc13] at hdn; cases hdn
            obtain rfl := (unhide H).a0 h13
            refine wpOp_of rfl rfl ?_
            refine wp_load_of 43 _ rfl ⟨w.heap.size, 0, none⟩ rfl _ (unhide HLD) ?_
            rw [unhide HI]
            exact ⟨fun i => if i = 12 then .agg SA else u i, rfl, (unhide H).pure 12 (by decide) (by decide) (by decide) hdn⟩
          · have d12 := hdep _ rfl { on := 12, ground := .data } (by simp) rfl
            have e12 : u 12 = _ := (unhide H).val 12 (by decide) (by decide) (by decide) d12
            simp only [rgV] at e12
            have h16 := (unhide H).not16 (k := 13) (by decide) hdn
            obtain rfl := (unhide H).a0 hdn
            refine wpOp_of rfl rfl ?_
            have e12 : u 12 = _ := (unhide H).val 12 (by decide) (by decide) (by decide) d12
            simp only [rgV] at e12
            go_wp2_with fail
            rw [unhide HFO _ rfl, unhide HI]
            refine ⟨fun i => if i = 13 then .slice (some ⟨wr.drew.heap.size, 0, none⟩) 1 1 else u i, ?_, by exact (unhide H).s13 hdn d12⟩
            simp [e12]
          · have d11 := hdep _ rfl { on := 11, ground := .data } (by simp) rfl
            have d13 := hdep _ rfl { on := 13, ground := .data } (by simp) rfl
            have e11 : u 11 = _ := (unhide H).val 11 (by decide) (by decide) (by decide) d11
            simp only [rgV] at e11
            have h16 := (unhide H).not16 (k := 14) (by decide) hdn
            obtain ⟨rfl, e13⟩ := (unhide H).a1 d13 hdn
            refine wpOp_of rfl rfl ?_
            refine wp_append_lies _ _ _ _ rfl 0 43 i43 (.agg (bv (List.replicate 32 0)).toArray) 32 32 Tryd.underlying121 hi43 hz43 hs43 hb43 hzz (by decide) (.slice xa xn xc) xn (bv (lvl E j).flatten) e11 (unhide HXO) ⟨wr.drew.heap.size, 0, none⟩ 1 1 (bv sr) e13 (by rw [hSl]) (unhide HNW) (bv_one _) (by decide) m1 m2 (Nat.zero_le _) (wr.heap.size + 1) sz ?_
            intro gn cap w3 own3 grow3 lies3 lt3
            rw [unhide HI]
            refine ⟨fun i => if i = 14 then .slice (some ⟨gn, 0, none⟩) (xn + 1) cap else u i, rfl, (unhide H).s14 hdn d11 d13 ⟨gn, cap, rfl, own3, (Only.alloc (Only.refl _ wr.drew) _).trans (grown_only grow3), ?_⟩⟩
            rcases lies3 with q | q
            · exact .inl q
            · right
              show wr.heap.size ≤ gn
              omega
          · have d3 := hdep _ rfl { on := 3, ground := .data } (by simp) rfl
            have d4 := hdep _ rfl { on := 4, ground := .data } (by simp) rfl
            have e3 : u 3 = _ := (unhide H).val 3 (by decide) (by decide) (by decide) d3
            simp only [rgV] at e3
            have e4 : u 4 = _ := (unhide H).val 4 (by decide) (by decide) (by decide) d4
            simp only [rgV] at e4
            have h16 := (unhide H).not16 (k := 15) (by decide) hdn
            refine wpOp_of rfl rfl ?_
            go_wp2_with fail
            rw [unhide HI]
            refine ⟨fun i => if i = 15 then rgV g b N hc j xn xc xa SA 15 else u i, ?_, (unhide H).pure 15 (by decide) (by decide) (by decide) hdn⟩
            simp [rgV, e3, e4]
          · have hall : ∀ k, k < 16 → dn k = true := by
              intro k hk
              have : k = 0 ∨ k = 1 ∨ k = 2 ∨ k = 3 ∨ k = 4 ∨ k = 5 ∨ k = 6 ∨ k = 7 ∨ k = 8 ∨ k = 9 ∨ k = 10 ∨ k = 11 ∨ k = 12 ∨ k = 13 ∨ k = 14 ∨ k = 15 := by omega
              rcases this with rfl | rfl | rfl | rfl | rfl | rfl | rfl | rfl | rfl | rfl | rfl | rfl | rfl | rfl | rfl | rfl
              · exact hdep _ rfl { on := 0, ground := .phase } (by simp) rfl
              · exact hdep _ rfl { on := 1, ground := .phase } (by simp) rfl
              · exact hdep _ rfl { on := 2, ground := .phase } (by simp) rfl
              · exact hdep _ rfl { on := 3, ground := .phase } (by simp) rfl
              · exact hdep _ rfl { on := 4, ground := .phase } (by simp) rfl
              · exact hdep _ rfl { on := 5, ground := .phase } (by simp) rfl
              · exact hdep _ rfl { on := 6, ground := .phase } (by simp) rfl
              · exact hdep _ rfl { on := 7, ground := .phase } (by simp) rfl
              · exact hdep _ rfl { on := 8, ground := .phase } (by simp) rfl
              · exact hdep _ rfl { on := 9, ground := .phase } (by simp) rfl
              · exact hdep _ rfl { on := 10, ground := .phase } (by simp) rfl
              · exact hdep _ rfl { on := 11, ground := .phase } (by simp) rfl
              · exact hdep _ rfl { on := 12, ground := .phase } (by simp) rfl
              · exact hdep _ rfl { on := 13, ground := .phase } (by simp) rfl
              · exact hdep _ rfl { on := 14, ground := .phase } (by simp) rfl
              · exact hdep _ rfl { on := 15, ground := .data } (by simp) rfl
            have e15 : u 15 = _ := (unhide H).val 15 (by decide) (by decide) (by decide) (hall 15 (by decide))
            simp only [rgV] at e15
            obtain ⟨gn, cap, e14, _, hon, _⟩ := (unhide H).a2 (hall 14 (by decide)) hdn
            obtain ⟨q1, q2⟩ := (unhide H).cellB hdn (a := ⟨b, j, none⟩) (unhide HR).bl (fun e => ((unhide HR).xb _ e).1 rfl)
            have q3 := q1.trans (unhide HR).bj
            have q4 := q2.trans (unhide HR).zb
            have HE14 := hide e14
            clear q1 q2 hon e14
            refine wpOp_of rfl rfl ?_
            have e14 := unhide HE14
            go_wp2_with fail
            rw [unhide HI]
            refine ⟨u, ?_, ?_⟩
            · simp [e14, e15]
            · have q := (unhide H).s16 hdn hall
              rw [e14] at q
              exact q
        · intro dn a' w' hId hall
          rw [unhide HI] at hId
          obtain ⟨u, rfl, h⟩ := hId
          have H := hide h
          clear h
          obtain ⟨w3, hG, rfl⟩ := (unhide H).a3 (hall 16 (by decide))
          obtain ⟨τ3, L3, old3, far3, row3, only3⟩ := (unhide HCB).put hG
          obtain ⟨gn, cap, hv, -, -, -⟩ := hG
          dsimp only
          clear H hall HI
          generalize u 14 = v' at *
          subst hv
          have q2 : (w3.setCell ⟨b, j, none⟩ (.slice (some ⟨gn, 0, none⟩) (xn + 1) cap)).cell? ⟨g, 2, none⟩ = some (.slice (some ⟨b, 0, none⟩) N hc) := L3.row.cell 2
          have qb : (w3.setCell ⟨b, j, none⟩ (.slice (some ⟨gn, 0, none⟩) (xn + 1) cap)).cell? ⟨b, j, none⟩ = some (.slice (some ⟨gn, 0, none⟩) (xn + 1) cap) := by
            have ho3 := L3.ho
            rw [List.length_set, (unhide HCB).nl] at ho3
            have := ho3.cellAt j (by omega)
            rw [this, List.getElem?_map, List.getElem?_set_self (by rw [(unhide HCB).nl]; exact jN)]
            rfl
          have HL3 := hide L3
          have HO3 := hide old3
          have HF3 := hide far3
          have HR3 := hide row3
          have HY3 := hide only3
          clear L3 old3 far3 row3 only3 HR HFO HLD HXO HNW HSA
          generalize u 0 = y0 at *
          generalize u 1 = y1 at *
          generalize u 2 = y2 at *
          generalize u 3 = y3 at *
          generalize u 4 = y4 at *
          generalize u 5 = y5 at *
          generalize u 6 = y6 at *
          generalize u 7 = y7 at *
          generalize u 8 = y8 at *
          generalize u 9 = y9 at *
          generalize u 10 = y10 at *
          generalize u 11 = y11 at *
          generalize u 12 = y12 at *
          generalize u 13 = y13 at *
          generalize u 15 = y15 at *
          generalize w3.setCell ⟨b, j, none⟩ (.slice (some ⟨gn, 0, none⟩) (xn + 1) cap) = W5 at *
          go_wp2_with fail
          have hLL : lvl E j ++ [sr] = lvl (E ++ [d]) j := by rw [lvl_more (unhide HCB).dv, ← (unhide HCB).sv]
          have hEl : (E ++ [d]).length = E.length + 1 := by simp
          have hln : (E.length + 1) / 2 ^ j = xn + 1 := by
            have h1 := congrArg List.length hLL
            rw [lvl_len, hEl, List.length_append, (unhide HCB).xl] at h1
            simpa using h1.symm
          have T5 : Tabs W5 := (unhide HT).only (unhide HY3) (fun k hk => unhide HTA k hk)
          have q5 := ((unhide HL3).qo j _ (List.getElem?_set_self (by rw [(unhide HCB).nl]; exact jN))).1
          have ql5 := (unhide HL3).ql j _ (List.getElem?_set_self (by rw [(unhide HCB).nl]; exact jN))
          have hll : (lvl E j ++ [sr]).length = xn + 1 := by rw [List.length_append, (unhide HCB).xl]; rfl
          have S5 : SS W5 ⟨gn, 0, none⟩ (lvl E j ++ [sr]) := SS.of_own (cap := cap) (by
            have h := q5
            simp only [] at h
            rw [hll] at h ⊢
            exact h) ql5
          obtain ⟨SB, hSB⟩ : ∃ A, (bv sr).toArray = A := ⟨_, rfl⟩
          have HSB : Hid (SB.size = 32) := hide (by rw [← hSB, List.size_toArray, hSl])
          have HSE := hide hSB
          have HNX : Hid ((Qr.set j (.slice (some ⟨gn, 0, none⟩) (xn + 1) cap, lvl E j ++ [sr])).map (·.2) = midL E d (j + 1)) := hide ((unhide HCB).nx _)
          by_cases par : (xn + 1) % 2 = 1
          · have HPO := hide (pair_odd (some ⟨gn, 0, none⟩) (xn + 1) cap W5 par (by omega))
            have hlast : ¬ 2 ^ (j + 1) ∣ E.length + 1 := fun hd => by
              have := (even_dvd (unhide HCB).dv).2 hd
              rw [hln] at this
              omega
            have HLAST := hide hlast
            have HDV := hide (unhide HCB).dv
            clear hlast hLL hEl hln T5 q5 ql5 hll S5 hSB par
            refine Calls.mono (unhide HPO) ?_
            rintro e W6 ⟨rfl, b6⟩
            obtain ⟨Z0, hZ0⟩ : ∃ A, (bv (List.replicate 32 0)).toArray = A := ⟨_, rfl⟩
            have HZS : Hid (Z0.size = 32) := hide (by rw [← hZ0, List.size_toArray, bv_len, List.length_replicate])
            have HZO : Hid (Z0.all (·.oneCell') = true) := hide (hZ0 ▸ one_bv _)
            have HZE := hide hZ0
            rw [hZ0]
            have HE2 := hide (((unhide HR3).below b6 (unhide HR3).lt).arr (unhide HSE))
            have HB6 := hide b6
            clear hZ0 b6 HPO
            go_wp2_with (refine wpList_store_row rfl 43 _ _ rfl w.heap.size Z0 rfl rfl 43 SB (unhide HE2) (by rw [z27, unhide HZS]) (by rw [unhide HZS, unhide HSB]) (unhide HZO) ?_)
            go_roundw
            case rel =>
              refine ⟨j + 1, false, by go_num, rfl, hide ⟨⟨by omega, fun h => by cases h⟩, τ3, (.slice (some ⟨b, 0, none⟩) N hc), (Qr.set j (.slice (some ⟨gn, 0, none⟩) (xn + 1) cap, lvl E j ++ [sr])), List.replicate 32 0, ?_⟩⟩
              have o7 : Only (fun k => k = w.heap.size) W6 (W6.setRow w.heap.size Z0) := Only.setRowA (Only.refl _ _) _ _ rfl
              exact {
                lg := ((unhide HL3).call (unhide HB6)).only (o7.mono (fun k hk => by show τ3 k = -1; rw [hk]; exact unhide HF3))
                old := unhide HO3
                far := unhide HF3
                row := by
                  show (W6.setRow w.heap.size Z0).heap[w.heap.size]? = some (.cells _ 43 (0, 0))
                  rw [unhide HZE]
                  exact setRow_heap _ _ _ _ _ _ (unhide HE2)
                len := ⟨List.length_replicate .., fun y hy => by rw [List.eq_of_mem_replicate hy]; decide⟩
                only := (unhide HY3).next (q := fun k => k = w.heap.size) ((Only.of_below (unhide HB6)).trans o7) (fun i hi => .inr (by omega))
                yes := fun h => by cases h
                no := fun _ => by rw [unhide HNX, midL_last (unhide HDV) (unhide HLAST)] }
            case measure => simp [intOf]; omega
          · have hev : (xn + 1) % 2 = 0 := by omega
            have hdv : 2 ^ (j + 1) ∣ E.length + 1 := (even_dvd (unhide HCB).dv).1 (by rw [hln]; exact hev)
            obtain ⟨x1, x2, hx1, hx2, hx3, hx4⟩ := pair_last (E := E ++ [d]) (h := j) (by rw [hEl]; exact hdv) (by rw [hEl]; omega)
            rw [hEl, hln] at hx1 hx2 hx3
            rw [← hLL] at hx1 hx2
            have HPE := hide (pair_even gn (xn + 1) cap (lvl E j ++ [sr]) x1 x2 W5 T5 hev hx3 (by omega) S5 hll hx1 hx2)
            have hj1 : j + 1 ≤ 20 := by
              have h1 := Nat.le_of_dvd (by omega) hdv
              have h2 := unhide HN
              by_cases hq : j + 1 ≤ 20
              · exact hq
              · have := Nat.pow_le_pow_right (n := 2) (by decide) (show 21 ≤ j + 1 by omega)
                omega
            have x8 : U8 (knotL x1 x2) := sumL_8 _ _
            obtain ⟨K, hK⟩ : ∃ K, knotL x1 x2 = K := ⟨_, rfl⟩
            have HKL : Hid (K.length = 32) := hide (by rw [← hK, knotL_len])
            rw [hK] at HPE x8 hx4
            rw [hEl] at hx4
            have HK8 := hide x8
            have HX4 := hide hx4
            have HDV := hide hdv
            have HJ1 := hide hj1
            clear hLL hEl hln T5 q5 ql5 hll S5 hSB par hev hdv hx1 hx2 hx3 hx4 hj1 x8 hK
            refine Calls.mono (unhide HPE) ?_
            rintro e W6 ⟨rfl, b6⟩
            obtain ⟨Z0, hZ0⟩ : ∃ A, (bv K).toArray = A := ⟨_, rfl⟩
            have HZS : Hid (Z0.size = 32) := hide (by rw [← hZ0, List.size_toArray, bv_len, unhide HKL])
            have HZO : Hid (Z0.all (·.oneCell') = true) := hide (hZ0 ▸ one_bv _)
            have HZE := hide hZ0
            rw [hZ0]
            have HE2 := hide (((unhide HR3).below b6 (unhide HR3).lt).arr (unhide HSE))
            have HB6 := hide b6
            clear hZ0 b6 HPE
            go_wp2_with (refine wpList_store_row rfl 43 _ _ rfl w.heap.size Z0 rfl rfl 43 SB (unhide HE2) (by rw [z27, unhide HZS]) (by rw [unhide HZS, unhide HSB]) (unhide HZO) ?_)
            go_roundw
            case rel =>
              refine ⟨j + 1, true, by go_num, rfl, hide ⟨⟨by have := unhide HJ1; omega, fun _ => unhide HJ1⟩, τ3, (.slice (some ⟨b, 0, none⟩) N hc), (Qr.set j (.slice (some ⟨gn, 0, none⟩) (xn + 1) cap, lvl E j ++ [sr])), K, ?_⟩⟩
              have o7 : Only (fun k => k = w.heap.size) W6 (W6.setRow w.heap.size Z0) := Only.setRowA (Only.refl _ _) _ _ rfl
              exact {
                lg := ((unhide HL3).call (unhide HB6)).only (o7.mono (fun k hk => by show τ3 k = -1; rw [hk]; exact unhide HF3))
                old := unhide HO3
                far := unhide HF3
                row := by
                  show (W6.setRow w.heap.size Z0).heap[w.heap.size]? = some (.cells _ 43 (0, 0))
                  rw [unhide HZE]
                  exact setRow_heap _ _ _ _ _ _ (unhide HE2)
                len := ⟨unhide HKL, unhide HK8⟩
                only := (unhide HY3).next (q := fun k => k = w.heap.size) ((Only.of_below (unhide HB6)).trans o7) (fun i hi => .inr (by omega))
                yes := fun _ => ⟨unhide HNX, unhide HDV, unhide HX4⟩
                no := fun h => by cases h }
            case measure => simp [intOf]; have := unhide HJ1; omega
end Go.Proofs.YtonkgiiacholeaaDoor
