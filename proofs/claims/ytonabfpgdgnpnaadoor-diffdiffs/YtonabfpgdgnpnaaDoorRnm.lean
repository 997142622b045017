/- The document's Norm: the walk. -/
import Derived.Test.YtonabfpgdgnpnaaDoorOne
import Derived.Test.YtonabfpgdgnpnaaDoorRfi
namespace Go.Proofs.YtonabfpgdgnpnaaDoor
set_option linter.unusedVariables false
set_option linter.unusedSimpArgs false
open Go.ChangeShapes Go.WideShapes Go.ChangeAt Go.RowKit Go.Joins Go.Deep

theorem oneL_last {l : List Pt} {p q : Pt} (h : (oneL l p).getLast? = some q) : q.kind = p.kind := by
  rcases snoc_or l with rfl | ⟨L, r, rfl⟩
  · rw [oneL_nil] at h
    simp at h
    rw [← h]
  · rw [oneL_snoc] at h
    split at h
    · rename_i e
      simp at h
      rw [← h]
      exact e
    · simp at h
      rw [← h]
theorem last_mem {l : List Pt} {q : Pt} (h : l.getLast? = some q) : q ∈ l := List.mem_of_getLast? h
/-- the document's one, on an own row -/
theorem one_own {w W : World} {B : Nat} {v : Value} {l : List Pt} {p : Pt} (ho : OwnP W B v l) (hb : Below B w W) (hB : B ≤ w.heap.size) (hl : l.length ≤ 1099511627776) (hn : ∀ q, l.getLast? = some q → q.kind = p.kind → -9223372036854775808 ≤ q.n + p.n ∧ q.n + p.n ≤ 9223372036854775807 ∧ q.text.size + p.text.size ≤ 9223372036854775807) :
    Calls Tryd.prog 55 #[v, .agg #[.int .i64 p.kind, .int .i64 p.n, .string p.text]] W fun r w' => ∃ v', r = .returned v' ∧ OwnP w' B v' (oneL l p) ∧ Below W.heap.size W w' := by
  obtain ⟨a, c, rfl, h1, h2, h3⟩ := ho.slice
  refine Calls.mono (one_any a l c p W h1 h2 h3 hl hn) ?_
  rintro r w' ⟨v', rfl, h4, h5⟩
  exact ⟨v', rfl, own_base h4 (Nat.le_trans hB hb.size), h5⟩
set_option maxRecDepth 100000 in
set_option maxHeartbeats 4000000 in
theorem rnorm_any (a : Option Addr) (l : List Pt) (c : Nat) (w : World) (hp : PtsAt w a l) (hc : l.length ≤ 4194304) (hs : sumT l ≤ 140737488355328) :
    Calls Tryd.prog 34 #[.slice a l.length c] w fun r w' => ∃ v, r = .returned v ∧ OwnP w' w.heap.size v (rnormL l) ∧ Below w.heap.size w w' := by
  have HP := hide hp
  have HS := hide hs
  obtain ⟨n, hn⟩ : ∃ n, l.length = n := ⟨_, rfl⟩
  rw [hn] at hc ⊢
  have HN := hide hn
  have nI : (n : Int) ≤ 9223372036854775807 := by omega
  clear hp hs hn
  go_enter Tryd.func34, Tryd.ntmps34
  go_wp2_with fail
  go_loopw [3, 10] (fun out i wr => ∃ k : Nat, k ≤ n ∧ i = .int .i64 (k : Int) ∧ Hid (OwnP wr w.heap.size out (rnormL (l.take k))) ∧ Hid (Below w.heap.size w wr)) (fun _ i _ => ((n : Int) - intOf i).toNat)
  case atStart => exact ⟨0, by omega, by simp, hide (OwnP.nil _ _), hide (Below.refl _ _)⟩
  case round =>
    obtain ⟨k, hk, rfl, HOW, HB⟩ := hrel
    by_cases hlt : k < n
    · have kI : (k : Int) < (n : Int) := by omega
      obtain ⟨p, hpk⟩ : ∃ p, l[k]? = some p := ⟨_, List.getElem?_eq_getElem (by have := unhide HN; omega)⟩
      obtain ⟨b, off, rfl, e0, e1, e2⟩ := (unhide HP).at_ (unhide HB) hpk
      have HST := hide (rnormL_take hpk)
      have HSM : Hid (sumT (rnormL (l.take k)) + p.text.size ≤ 140737488355328) := hide (by have := rnorm_sum l k; have := sumT_take hpk; have := sumT_le l (k + 1); have := unhide HS; omega)
      have HLEN : Hid ((rnormL (l.take k)).length ≤ 4194304) := hide (by have := rnorm_len l k; omega)
      have HNUM := hide (rnorm_num l k (by omega))
      have hbA : Below wr.heap.size wr (wr.alloc (.cells #[.int .i64 p.kind, .int .i64 p.n, .string p.text] 39)) := (Below.refl _ _).alloc (Nat.le_refl _) _
      have HBN := hide hbA
      have HOA := hide ((unhide HOW).call hbA)
      have HBA := hide ((unhide HB).trans (hbA.mono (unhide HB).size))
      have HRW := hide (RowAt.new wr 39 [.int .i64 p.kind, .int .i64 p.n, .string p.text])
      have HFI := hide (rfits_any p (wr.alloc (.cells #[.int .i64 p.kind, .int .i64 p.n, .string p.text] 39)) (by have := unhide HSM; omega))
      clear hpk hbA HOW
      obtain ⟨ro, hro⟩ : ∃ z, rnormL (l.take k) = z := ⟨_, rfl⟩
      rw [hro] at HST HSM HLEN HNUM HOA
      clear hro
      go_wp2_with fail
      obtain ⟨wA, hA⟩ : ∃ wA, wr.alloc (.cells #[.int .i64 p.kind, .int .i64 p.n, .string p.text] 39) = wA := ⟨_, rfl⟩
      rw [hA] at HBA HRW HFI HOA HBN ⊢
      clear hA e0 e1 e2
      obtain ⟨bb, hbb⟩ : ∃ bb, wr.heap.size = bb := ⟨_, rfl⟩
      simp only [hbb] at HRW ⊢
      clear hbb
      refine Calls.mono (unhide HFI) ?_
      rintro r w2 ⟨rfl, hb2⟩
      have HB2 := hide ((unhide HBA).trans (hb2.mono (unhide HBA).size))
      have HO2 := hide ((unhide HOA).call hb2)
      have HR2 := hide ((unhide HRW).below hb2 (unhide HRW).lt)
      clear hb2 HBA HRW HFI HOA HBN HB
      have r0 : w2.cell? ⟨bb, 0, none⟩ = some (.int .i64 p.kind) := (unhide HR2).cell 0
      have r1 : w2.cell? ⟨bb, 1, none⟩ = some (.int .i64 p.n) := (unhide HR2).cell 1
      have r2 : w2.cell? ⟨bb, 2, none⟩ = some (.string p.text) := (unhide HR2).cell 2
      cases hfb : fitsB p with
      | false =>
        have HST : Hid (rnormL (l.take (k + 1)) = ro) := hide (by rw [unhide HST]; exact rnStep_no _ _ hfb)
        clear hfb
        go_wp2_with fail
        exact ⟨⟨k + 1, by omega, by simp, by rw [unhide HST]; exact HO2, hide (unhide HB2)⟩, by simp [intOf]; omega⟩
      | true =>
        have HFB := hide hfb
        have HF := hide (fitsB_has hfb)
        have HNM : Hid (∀ q ∈ ro, -9223372036854775808 ≤ q.n + p.n ∧ q.n + p.n ≤ 9223372036854775807 ∧ q.text.size + p.text.size ≤ 9223372036854775807) := hide (fun q hq => by
          have h1 := unhide HNUM q hq
          have h2 := (unhide HF).1
          have h3 := (unhide HF).2.1
          have h4 := sumT_mem hq
          have h5 := unhide HSM
          omega)
        clear hfb
        rcases snoc_or ro with hr0 | ⟨L, d, hr0⟩
        · have HST : Hid (rnormL (l.take (k + 1)) = oneL ro p) := hide (by rw [unhide HST, hr0]; exact rnStep_nil _ (unhide HFB))
          obtain ⟨ao, co, hvo, hpo, hco, hmo⟩ := (unhide HO2).slice
          rw [hr0] at hvo
          simp only [List.length_nil] at hvo
          subst hvo
          clear hr0 hpo
          cases hk2 : (p.kind == 2) with
          | false =>
            have HON := hide (one_own (w := w) (p := p) (unhide HO2) (unhide HB2) (Nat.le_refl _) (by have := unhide HLEN; omega) (fun q hq _ => unhide HNM q (last_mem hq)))
            go_wp2_with fail
            refine Calls.mono (unhide HON) ?_
            rintro r w3 ⟨v3, rfl, ho3, hb3⟩
            have HO3 := hide ho3
            have HB3 := hide ((unhide HB2).trans (hb3.mono (unhide HB2).size))
            clear ho3 hb3 HON HO2 r0 r1 r2
            go_wp2_with fail
            exact ⟨⟨k + 1, by omega, by simp, by rw [unhide HST]; exact HO3, hide (unhide HB3)⟩, by simp [intOf]; omega⟩
          | true =>
            have HON := hide (one_own (w := w) (p := p) (unhide HO2) (unhide HB2) (Nat.le_refl _) (by have := unhide HLEN; omega) (fun q hq _ => unhide HNM q (last_mem hq)))
            go_wp2_with fail
            refine Calls.mono (unhide HON) ?_
            rintro r w3 ⟨v3, rfl, ho3, hb3⟩
            have HO3 := hide ho3
            have HB3 := hide ((unhide HB2).trans (hb3.mono (unhide HB2).size))
            clear ho3 hb3 HON HO2 r0 r1 r2
            go_wp2_with fail
            exact ⟨⟨k + 1, by omega, by simp, by rw [unhide HST]; exact HO3, hide (unhide HB3)⟩, by simp [intOf]; omega⟩
        · obtain ⟨ao, co, hvo, hpo, hco, hmo⟩ := (unhide HO2).slice
          obtain ⟨j, hj⟩ : ∃ j, L.length = j := ⟨_, rfl⟩
          have hlen : ro.length = j + 1 := by rw [hr0]; simp [hj]
          rw [hlen] at hvo hco
          have hdj : ro[j]? = some d := by rw [hr0, ← hj]; simp
          obtain ⟨b3, off3, rfl, d0, d1, d2⟩ := hpo.at_ (Below.refl _ _) hdj
          subst hvo
          have HJL := hide hj
          have HR0 := hide hr0
          have HPO := hide hpo
          have jI : (0 : Int) ≤ (j : Int) := by omega
          have j0 : (0 : Int) < (j : Int) + 1 := by omega
          have jn : (j : Int) < (j : Int) + 1 := by omega
          have jm : (j : Int) + 1 ≤ 1099511627776 := by have := unhide HLEN; omega
          have jw : IntKind.i64.wrap (j : Int) = (j : Int) := by rw [IntKind.wrap_i64]; omega
          have ejj : ((j + 1 : Nat) : Int) = (j : Int) + 1 := by push_cast; rfl
          have HSN : Hid (rnStep ro p = if p.kind = 2 ∧ d.kind = 3 then oneL (oneL L p) d else oneL ro p) := hide (by rw [hr0]; exact rnStep_snoc _ _ _ (unhide HFB))
          clear hr0 hj hdj hpo hlen
          by_cases hk2 : p.kind = 2
          · have hk2b : (p.kind == 2) = true := by simp [hk2]
            by_cases hd3 : d.kind = 3
            · have hd3b : (d.kind == 3) = true := by simp [hd3]
              have HST : Hid (rnormL (l.take (k + 1)) = oneL (oneL L p) d) := hide (by rw [unhide HST, unhide HSN, if_pos ⟨hk2, hd3⟩])
              have HKK := hide (And.intro hk2 hd3)
              clear HSN hk2 hd3
              go_wp2_with fail
              have hbD : Below w2.heap.size w2 (w2.alloc (.cells #[.int .i64 d.kind, .int .i64 d.n, .string d.text] 39)) := (Below.refl _ _).alloc (Nat.le_refl _) _
              have HRD := hide (RowAt.new w2 39 [.int .i64 d.kind, .int .i64 d.n, .string d.text])
              have HRP := hide ((unhide HR2).below hbD (unhide HR2).lt)
              have HBT := hide ((unhide HB2).trans (hbD.mono (unhide HB2).size))
              have HPD := hide ((unhide HPO).call hbD)
              obtain ⟨wD, hwD⟩ : ∃ z, w2.alloc (.cells #[.int .i64 d.kind, .int .i64 d.n, .string d.text] 39) = z := ⟨_, rfl⟩
              obtain ⟨gd, hgd⟩ : ∃ z, w2.heap.size = z := ⟨_, rfl⟩
              rw [hwD] at HRD HRP HBT HPD ⊢
              simp only [hgd] at HRD ⊢
              clear hwD hgd hbD HR2 HPO HO2 r0 r1 r2 d0 d1 d2
              have HSS : Hid (∀ W, Below wD.heap.size wD W → (W.cell? ⟨bb, 0, none⟩ = some (.int .i64 p.kind) ∧ W.cell? ⟨bb, 1, none⟩ = some (.int .i64 p.n) ∧ W.cell? ⟨bb, 2, none⟩ = some (.string p.text)) ∧ W.cell? ⟨gd, 0, none⟩ = some (.int .i64 d.kind) ∧ W.cell? ⟨gd, 1, none⟩ = some (.int .i64 d.n) ∧ W.cell? ⟨gd, 2, none⟩ = some (.string d.text)) := hide (fun W hW => ⟨⟨((unhide HRP).below hW (unhide HRP).lt).cell 0, ((unhide HRP).below hW (unhide HRP).lt).cell 1, ((unhide HRP).below hW (unhide HRP).lt).cell 2⟩, ((unhide HRD).below hW (unhide HRD).lt).cell 0, ((unhide HRD).below hW (unhide HRD).lt).cell 1, ((unhide HRD).below hW (unhide HRD).lt).cell 2⟩)
              have HC1 : Hid (∀ W, Below wD.heap.size wD W → Calls Tryd.prog 55 #[.slice (some ⟨b3, off3, none⟩) j co, .agg #[.int .i64 p.kind, .int .i64 p.n, .string p.text]] W fun r w' => ∃ v', r = .returned v' ∧ OwnP w' w.heap.size v' (oneL L p) ∧ Below W.heap.size W w') := hide (fun W hW => by
                have hLL : PtsAt W (some ⟨b3, off3, none⟩) L := by
                  have h0 := (unhide HPD).call hW
                  rw [unhide HR0] at h0
                  exact h0.front
                have h1 := one_any (some ⟨b3, off3, none⟩) L co p W hLL (by rw [unhide HJL]; omega) hmo (by rw [unhide HJL]; omega) (fun q hq _ => unhide HNM q (by rw [unhide HR0]; exact List.mem_append_left _ (last_mem hq)))
                rw [unhide HJL] at h1
                refine Calls.mono h1 ?_
                rintro r w' ⟨v', rfl, h4, h5⟩
                exact ⟨v', rfl, own_base h4 (Nat.le_trans (unhide HBT).size hW.size), h5⟩)
              have HC2 : Hid (∀ W v, OwnP W w.heap.size v (oneL L p) → Below wD.heap.size wD W → Calls Tryd.prog 55 #[v, .agg #[.int .i64 d.kind, .int .i64 d.n, .string d.text]] W fun r w' => ∃ v', r = .returned v' ∧ OwnP w' w.heap.size v' (oneL (oneL L p) d) ∧ Below W.heap.size W w') := hide (fun W v hv hW => one_own (w := w) hv ((unhide HBT).trans (hW.mono (unhide HBT).size)) (Nat.le_refl _) (by have := oneL_len L p; rw [unhide HJL] at this; omega) (fun q hq e => by
                have := oneL_last hq
                have h3 := unhide HKK
                omega))
              have hjc : (j : Int) ≤ (co : Int) := by omega
              have hjc2 : j ≤ co := by omega
              refine wp_region_T (S := fun W => (W.cell? ⟨bb, 0, none⟩ = some (.int .i64 p.kind) ∧ W.cell? ⟨bb, 1, none⟩ = some (.int .i64 p.n) ∧ W.cell? ⟨bb, 2, none⟩ = some (.string p.text)) ∧ W.cell? ⟨gd, 0, none⟩ = some (.int .i64 d.kind) ∧ W.cell? ⟨gd, 1, none⟩ = some (.int .i64 d.n) ∧ W.cell? ⟨gd, 2, none⟩ = some (.string d.text)) (fun i => decide (i < 9)) (by kernel_rfl) (unhide HSS _ (Below.refl _ _).drew) (fun hHeld => ?_)
              obtain ⟨wd, hwd⟩ : ∃ z, wD.drew = z := ⟨_, rfl⟩
              have hbd : Below wD.heap.size wD wd := by rw [← hwd]; exact (Below.refl _ _).drew
              have HBD := hide hbd
              rw [hwd] at hHeld ⊢
              clear hwd hbd
              refine wpAnyT_take (i := 0) (oi := { dst := some 40, op := Op.move (Operand.tmp 3), type := 24, pos := "ref.go:137", after := #[], guard := none }) (v := .slice (some ⟨b3, off3, none⟩) (j + 1) co) rfl (by kernel_rfl) (by kernel_rfl) (by kernel_rfl) (by kernel_rfl) (fun _ _ _ h => h) (Or.inl ⟨by rfl, ?_⟩) hHeld ?_
              · intro w hSw
                obtain ⟨⟨s0, s1, s2⟩, s3, s4, s5⟩ := hSw
                first
                  | rfl
                  | (go_simp; done)
              try simp only [Act.put, List.setIfInBounds_toArray, List.set_cons_zero, List.set_cons_succ]
              refine wpAnyT_take (i := 1) (oi := { dst := some 41, op := Op.move (Operand.tmp 6), type := 3, pos := "ref.go:137", after := #[], guard := none }) (v := .int .i64 ((j : Int) + 1)) rfl (by kernel_rfl) (by kernel_rfl) (by kernel_rfl) (by kernel_rfl) (fun _ _ _ h => h) (Or.inl ⟨by rfl, ?_⟩) hHeld ?_
              · intro w hSw
                obtain ⟨⟨s0, s1, s2⟩, s3, s4, s5⟩ := hSw
                first
                  | rfl
                  | (go_simp; done)
              try simp only [Act.put, List.setIfInBounds_toArray, List.set_cons_zero, List.set_cons_succ]
              refine wpAnyT_take (i := 2) (oi := { dst := some 42, op := Op.binOp BinOp.sub 3 (Operand.tmp 41) (Operand.const (Value.int IntKind.i64 1)) 3, type := 3, pos := "ref.go:137", after := #[{ on := 1, ground := Ground.data }], guard := none }) (v := .int .i64 (j : Int)) rfl (by kernel_rfl) (by kernel_rfl) (by kernel_rfl) (by kernel_rfl) (fun _ _ _ h => h) (Or.inl ⟨by rfl, ?_⟩) hHeld ?_
              · intro w hSw
                obtain ⟨⟨s0, s1, s2⟩, s3, s4, s5⟩ := hSw
                first
                  | rfl
                  | (go_simp; done)
              try simp only [Act.put, List.setIfInBounds_toArray, List.set_cons_zero, List.set_cons_succ]
              refine wpAnyT_take (i := 3) (oi := { dst := some 43, op := Op.slice 24 (Operand.tmp 40) none (some (Operand.tmp 42)) none, type := 24, pos := "ref.go:137", after := #[{ on := 0, ground := Ground.data }, { on := 2, ground := Ground.data }], guard := none }) (v := .slice (some ⟨b3, off3, none⟩) j co) rfl (by kernel_rfl) (by kernel_rfl) (by kernel_rfl) (by kernel_rfl) (fun _ _ _ h => h) (Or.inl ⟨by rfl, ?_⟩) hHeld ?_
              · intro w hSw
                obtain ⟨⟨s0, s1, s2⟩, s3, s4, s5⟩ := hSw
                first
                  | rfl
                  | (go_simp; done)
              try simp only [Act.put, List.setIfInBounds_toArray, List.set_cons_zero, List.set_cons_succ]
              refine wpAnyT_take (i := 4) (oi := { dst := some 44, op := Op.load 39 (Operand.tmp 5), type := 39, pos := "ref.go:137", after := #[], guard := none }) (v := .agg #[.int .i64 p.kind, .int .i64 p.n, .string p.text]) rfl (by kernel_rfl) (by kernel_rfl) (by kernel_rfl) (by kernel_rfl) (fun _ _ _ h => h) (Or.inl ⟨by rfl, ?_⟩) hHeld ?_
              · intro w hSw
                obtain ⟨⟨s0, s1, s2⟩, s3, s4, s5⟩ := hSw
                first
                  | rfl
                  | (go_simp; done)
              try simp only [Act.put, List.setIfInBounds_toArray, List.set_cons_zero, List.set_cons_succ]
              refine wpAnyT_take (i := 6) (oi := { dst := some 46, op := Op.load 39 (Operand.tmp 7), type := 39, pos := "ref.go:137", after := #[], guard := none }) (v := .agg #[.int .i64 d.kind, .int .i64 d.n, .string d.text]) rfl (by kernel_rfl) (by kernel_rfl) (by kernel_rfl) (by kernel_rfl) (fun _ _ _ h => h) (Or.inl ⟨by rfl, ?_⟩) hHeld ?_
              · intro w hSw
                obtain ⟨⟨s0, s1, s2⟩, s3, s4, s5⟩ := hSw
                first
                  | rfl
                  | (go_simp; done)
              try simp only [Act.put, List.setIfInBounds_toArray, List.set_cons_zero, List.set_cons_succ]
              refine wpAnyT_one (i := 5) (o := { dst := some 45, op := Op.call { callee := Callee.value (Operand.func 55), args := #[Operand.tmp 43, Operand.tmp 44], argTypes := #[24, 39] }, type := 24, pos := "ref.go:137", after := #[{ on := 3, ground := Ground.data }, { on := 4, ground := Ground.data }], guard := none }) (by kernel_rfl) rfl (fun K hK => ?_)
              go_simp
              refine Calls.mono (unhide HC1 _ (unhide HBD)) ?_
              rintro r wE ⟨vE, rfl, hoE, hbE⟩
              have HOE := hide hoE
              have HBE := hide ((unhide HBD).trans (hbE.mono (unhide HBD).size))
              clear hoE hbE
              go_wp2_with fail
              refine hK.out _ _ (fun _ => unhide HSS _ (unhide HBE)) ?_
              clear hK K
              try simp only [Act.put, List.setIfInBounds_toArray, List.set_cons_zero, List.set_cons_succ]
              refine wpAnyT_one (i := 7) (o := { dst := some 47, op := Op.call { callee := Callee.value (Operand.func 55), args := #[Operand.tmp 45, Operand.tmp 46], argTypes := #[24, 39] }, type := 24, pos := "ref.go:137", after := #[{ on := 5, ground := Ground.data }, { on := 6, ground := Ground.data }, { on := 5, ground := Ground.chain }], guard := none }) (by kernel_rfl) rfl (fun K hK => ?_)
              go_simp
              refine Calls.mono (unhide HC2 _ _ (unhide HOE) (unhide HBE)) ?_
              rintro r wF ⟨vF, rfl, hoF, hbF⟩
              have HOF := hide hoF
              have HBF := hide ((unhide HBE).trans (hbF.mono (unhide HBE).size))
              clear hoF hbF
              go_wp2_with fail
              refine hK.out _ _ (fun _ => unhide HSS _ (unhide HBF)) ?_
              clear hK K
              try simp only [Act.put, List.setIfInBounds_toArray, List.set_cons_zero, List.set_cons_succ]
              refine wpAnyT_take (i := 8) (oi := { dst := some 3, op := Op.assign (Operand.tmp 47), type := 24, pos := "ref.go:137", after := #[{ on := 7, ground := Ground.data }, { on := 7, ground := Ground.chain }, { on := 0, ground := Ground.phase }, { on := 1, ground := Ground.phase }, { on := 2, ground := Ground.phase }, { on := 3, ground := Ground.phase }, { on := 4, ground := Ground.phase }, { on := 5, ground := Ground.phase }, { on := 6, ground := Ground.phase }, { on := 7, ground := Ground.phase }], guard := none }) (v := vF) rfl (by kernel_rfl) (by kernel_rfl) (by kernel_rfl) (by kernel_rfl) (fun _ _ _ h => h) (Or.inl ⟨by rfl, ?_⟩) (unhide HSS _ (unhide HBF)) ?_
              · intro w hSw
                obtain ⟨⟨s0, s1, s2⟩, s3, s4, s5⟩ := hSw
                first
                  | rfl
                  | (go_simp; done)
              try simp only [Act.put, List.setIfInBounds_toArray, List.set_cons_zero, List.set_cons_succ]
              refine wpAnyT_done (by kernel_rfl) ?_ _
              have HB3 := hide ((unhide HBT).trans ((unhide HBF).mono (unhide HBT).size))
              clear HSS HC1 HC2 hHeld HBE HBD HOE
              go_wp2_with fail
              exact ⟨⟨k + 1, by omega, by simp, by rw [unhide HST]; exact HOF, hide (unhide HB3)⟩, by simp [intOf]; omega⟩
            · have hd3b : (d.kind == 3) = false := by simp [hd3]
              have HST : Hid (rnormL (l.take (k + 1)) = oneL ro p) := hide (by rw [unhide HST, unhide HSN, if_neg (fun h => hd3 h.2)])
              clear HSN hk2 hd3
              have HON := hide (one_own (w := w) (p := p) (unhide HO2) (unhide HB2) (Nat.le_refl _) (by have := unhide HLEN; omega) (fun q hq _ => unhide HNM q (last_mem hq)))
              go_wp2_with fail
              refine Calls.mono (unhide HON) ?_
              rintro r w3 ⟨v3, rfl, ho3, hb3⟩
              have HO3 := hide ho3
              have HB3 := hide ((unhide HB2).trans (hb3.mono (unhide HB2).size))
              clear ho3 hb3 HON HO2 r0 r1 r2
              go_wp2_with fail
              exact ⟨⟨k + 1, by omega, by simp, by rw [unhide HST]; exact HO3, hide (unhide HB3)⟩, by simp [intOf]; omega⟩
          · have hk2b : (p.kind == 2) = false := by simp [hk2]
            have HST : Hid (rnormL (l.take (k + 1)) = oneL ro p) := hide (by rw [unhide HST, unhide HSN, if_neg (fun h => hk2 h.1)])
            clear HSN hk2
            have HON := hide (one_own (w := w) (p := p) (unhide HO2) (unhide HB2) (Nat.le_refl _) (by have := unhide HLEN; omega) (fun q hq _ => unhide HNM q (last_mem hq)))
            go_wp2_with fail
            refine Calls.mono (unhide HON) ?_
            rintro r w3 ⟨v3, rfl, ho3, hb3⟩
            have HO3 := hide ho3
            have HB3 := hide ((unhide HB2).trans (hb3.mono (unhide HB2).size))
            clear ho3 hb3 HON HO2 r0 r1 r2
            go_wp2_with fail
            exact ⟨⟨k + 1, by omega, by simp, by rw [unhide HST]; exact HO3, hide (unhide HB3)⟩, by simp [intOf]; omega⟩
    · obtain rfl : n = k := by omega
      have kI : ¬ (n : Int) < (n : Int) := by omega
      have HL : Hid (l.take n = l) := hide (List.take_of_length_le (by rw [unhide HN]; exact Nat.le_refl _))
      rw [unhide HL] at HOW
      go_wp2_with fail
      go_ret
      exact ⟨_, rfl, unhide HOW, unhide HB⟩
end Go.Proofs.YtonabfpgdgnpnaaDoor
