/- Move. -/
import Derived.Test.YtdnbhomjfgpcfaaDoorLMv
import Derived.Test.YtdnbhomjfgpcfaaDoorLAp
import Derived.Test.YtdnbhomjfgpcfaaDoorLFi
import Derived.Test.YtdnbhomjfgpcfaaDoorLTm
import Derived.Test.YtdnbhomjfgpcfaaDoorLEd
namespace Go.Proofs.YtdnbhomjfgpcfaaDoor
set_option linter.unusedVariables false
set_option linter.unusedSimpArgs false
open Go.ChangeShapes Go.WideShapes Go.ChangeAt Go.RowKit Go.Joins Go.Deep

def mvA (cs : List (List UInt8)) (F E A : Nat) : List At := At.comp (List.replicate F .k ++ (List.replicate (E - F) .d ++ List.replicate (cs.length - E) .k)) (List.replicate A .k ++ ((sub cs F E).map .p ++ List.replicate (cs.length - (E - F) - A) .k))
/-- where it comes, in what is left -/
def mvP (cs : List (List UInt8)) (f k t : Nat) : Nat := if f < t then stN cs t - (stN cs (f + k) - stN cs f) else stN cs t
def MovR (cs : List (List UInt8)) (f k t : Int) (w : World) (r : Ending) (w' : World) : Prop := (movB (sts cs).length f k t = false ∧ r = .returned (.tuple #[.slice none 0 0, .int .i64 1]) ∨ movB (sts cs).length f k t = true ∧ ∃ v l, r = .returned (.tuple #[v, .int .i64 0]) ∧ OwnP w' w.heap.size v l ∧ NfG 0 l ∧ atomsL l = At.can (mvA cs (stN cs f.toNat) (stN cs (f.toNat + k.toNat)) (mvP cs f.toNat k.toNat t.toNat))) ∧ Below w.heap.size w w'
theorem movB_has {n : Nat} {f k t : Int} (h : movB n f k t = true) : 0 ≤ f ∧ f < n ∧ 0 ≤ k ∧ k ≤ n - 1 - f ∧ 0 ≤ t ∧ t < n ∧ (t ≤ f ∨ f + k ≤ t) := by
  unfold movB at h
  simp at h
  omega
theorem mv_place {cs : List (List UInt8)} {f k t : Nat} (h1 : f + k < (sts cs).length) (h2 : t < (sts cs).length) (h3 : t ≤ f ∨ f + k ≤ t) : stN cs f ≤ stN cs (f + k) ∧ stN cs (f + k) ≤ cs.length ∧ mvP cs f k t ≤ cs.length - (stN cs (f + k) - stN cs f) := by
  have a1 := sts_mono cs (a := f) (b := f + k) (by omega) h1
  have a2 := stN_le h1
  have a3 := stN_le h2
  refine ⟨a1, a2, ?_⟩
  unfold mvP
  change stN cs f ≤ stN cs (f + k) at a1
  by_cases c : f < t
  · rw [if_pos c]
    omega
  · rw [if_neg c]
    have a4 := sts_mono cs (a := t) (b := f) (by omega) (by omega)
    change stN cs t ≤ stN cs f at a4
    omega
theorem sub_len {cs : List (List UInt8)} {f e : Nat} (hf : f ≤ e) (he : e ≤ cs.length) : (sub cs f e).length = e - f := by unfold sub; rw [List.length_take, List.length_drop]; omega
theorem sub_cps {cs : List (List UInt8)} (h : Cps cs) (f e : Nat) : Cps (sub cs f e) := by unfold sub; exact (h.drop f).take _
theorem outA_ed {N F E : Nat} (h1 : F ≤ E) (h2 : E ≤ N) (h3 : N ≤ 1099511627776) : repB N F ((E : Int) - F) ByteArray.empty = true ∧ IsEd (repL N F ((E : Int) - F) ByteArray.empty) N (N - (E - F)) ∧ atomsL (repL N F ((E : Int) - F) ByteArray.empty) = List.replicate F .k ++ (List.replicate (E - F) .d ++ List.replicate (N - E) .k) ∧ (repL N F ((E : Int) - F) ByteArray.empty).length ≤ 11 := by
  have q := rep_ed tx_empty (n := N) (at_ := F) (k := (E : Int) - F) (by omega) (by omega) (by omega) (by omega) (by omega) (by omega) (by simp; omega)
  have e : atomsL (repL N F ((E : Int) - F) ByteArray.empty) = List.replicate F .k ++ (List.replicate (E - F) .d ++ List.replicate (N - E) .k) := by
    rw [q.2.1, show ((F : Nat) : Int).toNat = F by omega, show ((E : Int) - F).toNat = E - F by omega, show ((N : Int) - F - ((E : Int) - F)).toNat = N - E by omega]
    rfl
  refine ⟨repB_true tx_empty (by omega) (by omega) (by omega) (by omega) (by omega) (by omega) (by simp; omega), ⟨q.1, ?_, ?_, by omega, by omega⟩, e, q.2.2⟩
  · rw [e, At.from_app, At.from_app, from_rep_k, from_rep_d, from_rep_k]; omega
  · rw [e, At.to_app, At.to_app, to_rep_k, to_rep_d, to_rep_k]; omega
theorem inA_ed {N A : Nat} {s : ByteArray} {cs : List (List UInt8)} (hx : Tx s cs) (h1 : A ≤ N) (h3 : N + cs.length ≤ 1099511627776) : repB N A 0 s = true ∧ IsEd (repL N A 0 s) N (N + cs.length) ∧ atomsL (repL N A 0 s) = List.replicate A .k ++ (cs.map .p ++ List.replicate (N - A) .k) ∧ (repL N A 0 s).length ≤ 11 := by
  have q := rep_ed hx (n := N) (at_ := A) (k := 0) (by omega) (by omega) (by omega) (by omega) (by omega) (by omega) (by omega)
  have e : atomsL (repL N A 0 s) = List.replicate A .k ++ (cs.map .p ++ List.replicate (N - A) .k) := by
    rw [q.2.1, show ((A : Nat) : Int).toNat = A by omega, show ((N : Int) - A - 0).toNat = N - A by omega]
    rfl
  refine ⟨repB_true hx (by omega) (by omega) (by omega) (by omega) (by omega) (by omega) (by omega), ⟨q.1, ?_, ?_, by omega, by omega⟩, e, q.2.2⟩
  · rw [e, At.from_app, At.from_app, from_rep_k, from_map, from_rep_k]; omega
  · rw [e, At.to_app, At.to_app, to_rep_k, to_map, to_rep_k]; omega
theorem OwnP.base {w : World} {B B' : Nat} {v : Value} {l : List Pt} (h : OwnP w B v l) (hb : B' ≤ B) : OwnP w B' v l := own_base h hb
theorem rep_at {n at_ k : Int} {s : ByteArray} {N M : Nat} {w : World} (hK : Calls Tryd.prog 62 #[.int .i64 n, .int .i64 at_, .int .i64 k, .string s] w fun r w' => RepR w w' n at_ k s r) (hb : repB n at_ k s = true) (he : IsEd (repL n at_ k s) N M) (hl : (repL n at_ k s).length ≤ 11) : Calls Tryd.prog 62 #[.int .i64 n, .int .i64 at_, .int .i64 k, .string s] w fun r w' => ∃ a c m, r = .returned (.tuple #[.slice a m c, .int .i64 0]) ∧ (repL n at_ k s).length = m ∧ Edit w' a (repL n at_ k s) c ∧ Below w.heap.size w w' := by
  refine hK.mono (fun r w' h => ?_)
  obtain ⟨⟨h0, _⟩ | ⟨_, v, hr, ho⟩, b⟩ := h
  · rw [hb] at h0; cases h0
  · obtain ⟨a, c, rfl, e⟩ := ho.edit (ed_txt he) (by omega)
    exact ⟨a, c, _, hr, rfl, e, b⟩
set_option maxRecDepth 100000 in
set_option maxHeartbeats 4000000 in
theorem move_ok {w : World} {B g : Nat} {vr vs : Value} {cs : List (List UInt8)} (h : Ix w B g vr vs cs) (hcs : Cps cs) (f k t : Int) (hk1 : -9223372036854775808 ≤ k) (hk2 : k ≤ 9223372036854775807) (hT : UT w) (hl : cs.length ≤ 1048576) : Calls Tryd.prog 37 #[.pointer (some ⟨g, 0, none⟩), .int .i64 f, .int .i64 k, .int .i64 t] w fun r w' => MovR cs f k t w r w' := by
  have HU : Hid (∀ W, Below w.heap.size w W → UT W) := hide (fun W hb => hT.call hb)
  have HIX := hide h
  have HCS := hide hcs
  obtain ⟨ar, cr, as_, c_, e1, e2, q0, q1⟩ := h.two
  obtain ⟨gr, cr2, e5⟩ := h.sm
  rw [e5] at e1
  injection e1 with e1 _ e7
  subst e1 e7
  have hml : (sts cs).length ≤ 1048577 := by have := sts_len cs; omega
  have KM := hide (made_ok g w as_ _ c_ q1 (sts_pos cs))
  have KL := hide (moves_ok g f k t w as_ _ c_ q1 (by omega) hk1 hk2)
  cases hm : movB (sts cs).length f k t with
  | false =>
    rw [hm] at KL
    have HM := hide hm
    clear hm h e2 q0 q1 hT hcs
    go_enter Tryd.func37, Tryd.ntmps37
    go_wp2_with fail
    refine Calls.mono (unhide KM) ?_
    rintro r w1 ⟨rfl, rfl⟩
    go_wp2_with fail
    refine Calls.mono (unhide KL) ?_
    rintro r w1 ⟨rfl, rfl⟩
    go_wp2_with fail
    go_ret2
    exact ⟨.inl ⟨unhide HM, rfl⟩, Below.refl _ _⟩
  | true =>
    rw [hm] at KL
    have HM := hide hm
    obtain ⟨m1, m2, m3, m4, m5, m6, m7⟩ := movB_has hm
    obtain ⟨f', rfl⟩ : ∃ z : Nat, f = (z : Int) := ⟨f.toNat, by omega⟩
    obtain ⟨k', rfl⟩ : ∃ z : Nat, k = (z : Int) := ⟨k.toNat, by omega⟩
    obtain ⟨t', rfl⟩ : ∃ z : Nat, t = (z : Int) := ⟨t.toNat, by omega⟩
    have hfk : f' + k' < (sts cs).length := by omega
    have hf : f' < (sts cs).length := by omega
    have ht : t' < (sts cs).length := by omega
    obtain ⟨hFE, hEn, hP⟩ := mv_place hfk ht (by omega)
    have rf := stN_get hf
    have rfk := stN_get hfk
    have rt := stN_get ht
    have htn := stN_le ht
    have hgt : f' < t' → stN cs (f' + k') ≤ stN cs t' := fun _ => sts_mono cs (by omega) ht
    obtain ⟨F, hF⟩ : ∃ z, stN cs f' = z := ⟨_, rfl⟩
    obtain ⟨E, hE⟩ : ∃ z, stN cs (f' + k') = z := ⟨_, rfl⟩
    obtain ⟨A, hA⟩ : ∃ z, stN cs t' = z := ⟨_, rfl⟩
    obtain ⟨p, hp⟩ : ∃ z, mvP cs f' k' t' = z := ⟨_, rfl⟩
    have hp2 : (p : Int) = if f' < t' then (A : Int) - ((E : Int) - (F : Int)) else (A : Int) := by
      rw [← hp]
      unfold mvP
      rw [hA, hE, hF]
      split
      · rename_i c
        have := hgt c
        rw [hE, hA] at this
        rw [hF, hE] at hFE
        omega
      · rfl
    rw [hF] at rf hFE hP
    rw [hE] at rfk hFE hEn hP hgt
    rw [hA] at rt htn hgt
    rw [hp] at hP
    have HFEP := hide (And.intro hF (And.intro hE hp))
    clear hF hE hA hp
    obtain ⟨gs, c2, e3, hcf, _, hcc, _⟩ := own_rd h.s (u := .int .i64 (F : Int)) (i := f') (by simp [nsv, rf])
    obtain ⟨gs2, c3, e4, hcfk, _, _, _⟩ := own_rd h.s (u := .int .i64 (E : Int)) (i := f' + k') (by simp [nsv, rfk])
    obtain ⟨gs3, c4, e6, hct, _, _, _⟩ := own_rd h.s (u := .int .i64 (A : Int)) (i := t') (by simp [nsv, rt])
    rw [e2] at e3 e4 e6
    injection e3 with e3 e8 e9
    clear e8
    subst e3 e9
    injection e4 with e4 e8 e9
    injection e4 with e4
    injection e4 with e4 e7 e5'
    subst e4
    clear e7 e5' e8 e9
    injection e6 with e6 e8 e9
    injection e6 with e6
    injection e6 with e6 e7 e5'
    subst e6
    clear e7 e5' e8 e9
    obtain ⟨m, hmm⟩ : ∃ z, (sts cs).length = z := ⟨_, rfl⟩
    rw [hmm] at q1 hfk hf ht hcc hml m2 m4 m6
    have HMM := hide hmm
    have hr := h.r
    rw [e5] at hr
    obtain ⟨n, hn⟩ : ∃ z, cs.length = z := ⟨_, rfl⟩
    have HN := hide hn
    rw [hn] at q0 hEn hP htn hl hr
    have hncr : n ≤ cr2 := by
      rcases hr.2 with ⟨e9, _⟩ | ⟨g9, cap, cur, e9, _, _, h3, _⟩
      · injection e9 with e9; cases e9
      · injection e9 with _ _ e3; subst e3; exact h3
    obtain ⟨a1, ha1⟩ : ∃ a1, (if cr2 = F then some (⟨gr, 0, none⟩ : Addr) else some ⟨gr, F, none⟩) = a1 := ⟨_, rfl⟩
    obtain ⟨S, hS⟩ : ∃ S, tb (sub cs F E) = S := ⟨_, rfl⟩
    have hxS : Tx S (sub cs F E) := by rw [← hS]; exact tx_tb (sub_cps hcs F E)
    have hlS : (sub cs F E).length = E - F := sub_len hFE (by rw [hn]; exact hEn)
    have hSz : S.size ≤ 4194304 := by have h8 := (sub_cps hcs F E).most; have h9 := hxS.size; omega
    have HCV : Hid (∀ W, Below w.heap.size w W → ∀ c, (convert 40 9 (.slice a1 (E - F) c)).run Tryd.prog W = .ok (.string S) W) := hide (fun W hb c => by rw [← hS]; exact conv_sub (own_call hr hb) hn hcs hFE hEn a1 ha1 c)
    have KR1 : Hid (∀ W, Below w.heap.size w W → Calls Tryd.prog 62 #[.int .i64 (n : Int), .int .i64 (F : Int), .int .i64 ((E - F : Nat) : Int), .string ⟨#[]⟩] W fun r w' => RepR W w' n F ((E - F : Nat) : Int) ByteArray.empty r) := hide (fun W hb => replace_any _ _ _ _ W (unhide HU _ hb) (by decide) (by omega) (by omega))
    have KR2 : Hid (∀ W, Below w.heap.size w W → Calls Tryd.prog 62 #[.int .i64 ((n : Int) - ((E - F : Nat) : Int)), .int .i64 (p : Int), .int .i64 0, .string S] W fun r w' => RepR W w' ((n : Int) - ((E - F : Nat) : Int)) p 0 S r) := hide (fun W hb => replace_any _ _ _ _ W (unhide HU _ hb) (by omega) (by omega) (by omega))
    have ho1 := outA_ed (N := n) hFE hEn (by omega)
    have ho2 := inA_ed (N := n - (E - F)) (A := p) hxS hP (by omega)
    rw [hlS] at ho2
    have HO12 := hide (And.intro ho1 ho2)
    have eN : ((n - (E - F) : Nat) : Int) = (n : Int) - ((E - F : Nat) : Int) := by omega
    have eD : ((E - F : Nat) : Int) = (E : Int) - (F : Int) := by omega
    have KQ1 : Hid (∀ W, Below w.heap.size w W → Calls Tryd.prog 62 #[.int .i64 (n : Int), .int .i64 (F : Int), .int .i64 ((E - F : Nat) : Int), .string ⟨#[]⟩] W fun r w' => ∃ a c m, r = .returned (.tuple #[.slice a m c, .int .i64 0]) ∧ (repL n F ((E : Int) - F) ByteArray.empty).length = m ∧ Edit w' a (repL n F ((E : Int) - F) ByteArray.empty) c ∧ Below W.heap.size W w') := hide (fun W hb => by
      have h9 := unhide KR1 W hb
      rw [eD] at h9 ⊢
      exact rep_at h9 ho1.1 ho1.2.1 ho1.2.2.2)
    have KQ2 : Hid (∀ W, Below w.heap.size w W → Calls Tryd.prog 62 #[.int .i64 ((n : Int) - ((E - F : Nat) : Int)), .int .i64 (p : Int), .int .i64 0, .string S] W fun r w' => ∃ a c m, r = .returned (.tuple #[.slice a m c, .int .i64 0]) ∧ (repL (n - (E - F) : Nat) p 0 S).length = m ∧ Edit w' a (repL (n - (E - F) : Nat) p 0 S) c ∧ Below W.heap.size W w') := hide (fun W hb => by
      have h9 := unhide KR2 W hb
      rw [← eN] at h9 ⊢
      exact rep_at h9 ho2.1 ho2.2.1 ho2.2.2.2)
    have HXS := hide (And.intro hxS hlS)
    have HEF : Hid (((E - F : Nat) : Int) = (E : Int) - (F : Int)) := hide (by omega)
    obtain ⟨d, hd⟩ : ∃ z, E - F = z := ⟨_, rfl⟩
    clear KR1 KR2 ho1 ho2 eN eD
    rw [hd] at HCV KQ1 KQ2 HEF HO12
    have HDD := hide hd
    have s1 : (F : Int) ≤ (E : Int) := by omega
    have s2 : (E : Int) ≤ (cr2 : Int) := by omega
    have s3 : (F : Int) ≤ 1048576 := by omega
    have s4 : (f' : Int) < (m : Int) := by omega
    have s5 : (f' : Int) + (k' : Int) < (m : Int) := by omega
    have s6 : (t' : Int) < (m : Int) := by omega
    have i1 : (0 : Int) ≤ (f' : Int) := by omega
    have i2 : (0 : Int) ≤ (f' : Int) + (k' : Int) := by omega
    have i3 : (0 : Int) ≤ (t' : Int) := by omega
    have f0 : (0 : Int) ≤ (F : Int) := by omega
    have mI : (m : Int) ≤ 1048577 := by omega
    have aI : (A : Int) ≤ 1048576 := by omega
    have dI : (d : Int) ≤ 1048576 := by omega
    clear e2 hT hcs h e5 hm hmm hn hr hS hxS hlS hSz rf rfk rt m1 m2 m3 m4 m5 m6 m7 hd hf hfk ht
    go_enter Tryd.func37, Tryd.ntmps37
    go_wp2_with fail
    refine Calls.mono (unhide KM) ?_
    rintro r w1 ⟨rfl, rfl⟩
    go_wp2_with fail
    refine Calls.mono (unhide KL) ?_
    rintro r w1 ⟨rfl, rfl⟩
    go_wp2_with fail
    go_quiet (fail)
    rw [unhide HDD]
    have bd := Go.Joins.below_draws w.heap.size w nq
    have p0 := kept bd q0
    have p1 := kept bd q1
    have pf := kept bd hcf
    have pt := kept bd hct
    obtain ⟨w1, hw1⟩ : ∃ z, w.drewN nq = z := ⟨_, rfl⟩
    rw [hw1] at p0 p1 pf pt bd ⊢
    have BD := hide bd
    clear bd hw1 q0 q1 hcf hcfk hct
    have hmid : ∀ (P : Prop), True := fun _ => trivial
    clear hmid
    by_cases hft : f' < t'
    · rw [if_pos hft] at hp2
      have hp3 : (A : Int) - (d : Int) = (p : Int) := by rw [unhide HEF]; exact hp2.symm
      have hftI : (f' : Int) < (t' : Int) := by omega
      clear hp2 hft hgt
      go_wp2_with fail
      try rw [hp3]
      refine wp_region_T (S := fun W => (W.cell? ⟨g, 0, none⟩ = some (.slice (some ⟨gr, 0, none⟩) n cr2) ∧ W.cell? ⟨g, 1, none⟩ = some (.slice (some ⟨gs, 0, none⟩) m c_)) ∧ W.cell? ⟨gs, f', none⟩ = some (.int .i64 (F : Int))) (fun i => decide (i < 19)) (by kernel_rfl) ⟨⟨p0, p1⟩, pf⟩ (fun hHeld => ?_)
      have p9 : (w1.drew.cell? ⟨g, 0, none⟩ = some (.slice (some ⟨gr, 0, none⟩) n cr2) ∧ w1.drew.cell? ⟨g, 1, none⟩ = some (.slice (some ⟨gs, 0, none⟩) m c_)) ∧ w1.drew.cell? ⟨gs, f', none⟩ = some (.int .i64 (F : Int)) := hHeld
      obtain ⟨w2, hw2⟩ : ∃ z, w1.drew = z := ⟨_, rfl⟩
      have BD2 := hide ((unhide BD).drew)
      rw [hw2] at BD2 hHeld p9 ⊢
      have p0 : w2.cell? ⟨g, 0, none⟩ = some (.slice (some ⟨gr, 0, none⟩) n cr2) ∧ w2.cell? ⟨g, 1, none⟩ = some (.slice (some ⟨gs, 0, none⟩) m c_) ∧ w2.cell? ⟨gs, f', none⟩ = some (.int .i64 (F : Int)) := ⟨p9.1.1, p9.1.2, p9.2⟩
      clear p1 pf pt p9 hw2
      refine wpAnyT_take (i := 0) (oi := { dst := some 61, op := Op.move (Operand.tmp 0), type := 24, pos := "lines.go:132", after := #[], guard := none }) (v := .pointer (some ⟨g, 0, none⟩)) rfl (by kernel_rfl) (by kernel_rfl) (by kernel_rfl) (by kernel_rfl) (fun _ _ _ h => h) (Or.inl ⟨by rfl, ?_⟩) hHeld ?_
      · intro w hSw
        obtain ⟨⟨hg0, hg1⟩, hgf⟩ := hSw
        first
          | rfl
          | (go_simp; done)
      try simp only [Act.put, List.setIfInBounds_toArray, List.set_cons_zero, List.set_cons_succ]
      refine wpAnyT_take (i := 1) (oi := { dst := some 62, op := Op.nilCheck (Operand.tmp 61), type := 0, pos := "lines.go:132", after := #[{ on := 0, ground := Ground.data }], guard := none }) (v := .pointer (some ⟨g, 0, none⟩)) rfl (by kernel_rfl) (by kernel_rfl) (by kernel_rfl) (by kernel_rfl) (fun _ _ _ h => h) (Or.inl ⟨by rfl, ?_⟩) hHeld ?_
      · intro w hSw
        obtain ⟨⟨hg0, hg1⟩, hgf⟩ := hSw
        first
          | rfl
          | (go_simp; done)
      try simp only [Act.put, List.setIfInBounds_toArray, List.set_cons_zero, List.set_cons_succ]
      refine wpAnyT_take (i := 2) (oi := { dst := some 63, op := Op.fieldAddr 64 (Operand.tmp 62) 0, type := 0, pos := "lines.go:132", after := #[{ on := 1, ground := Ground.data }], guard := none }) (v := .pointer (some ⟨g, 0, none⟩)) rfl (by kernel_rfl) (by kernel_rfl) (by kernel_rfl) (by kernel_rfl) (fun _ _ _ h => h) (Or.inl ⟨by rfl, ?_⟩) hHeld ?_
      · intro w hSw
        obtain ⟨⟨hg0, hg1⟩, hgf⟩ := hSw
        first
          | rfl
          | (go_simp; done)
      try simp only [Act.put, List.setIfInBounds_toArray, List.set_cons_zero, List.set_cons_succ]
      refine wpAnyT_take (i := 3) (oi := { dst := some 64, op := Op.load 40 (Operand.tmp 63), type := 40, pos := "lines.go:132", after := #[{ on := 2, ground := Ground.data }], guard := none }) (v := .slice (some ⟨gr, 0, none⟩) n cr2) rfl (by kernel_rfl) (by kernel_rfl) (by kernel_rfl) (by kernel_rfl) (fun _ _ _ h => h) (Or.inl ⟨by rfl, ?_⟩) hHeld ?_
      · intro w hSw
        obtain ⟨⟨hg0, hg1⟩, hgf⟩ := hSw
        first
          | rfl
          | (go_simp; done)
      try simp only [Act.put, List.setIfInBounds_toArray, List.set_cons_zero, List.set_cons_succ]
      refine wpAnyT_take (i := 4) (oi := { dst := some 65, op := Op.call { callee := Callee.builtin Builtin.len, args := #[Operand.tmp 64], argTypes := #[40] }, type := 3, pos := "lines.go:132", after := #[{ on := 3, ground := Ground.data }], guard := none }) (v := .int .i64 (n : Int)) rfl (by kernel_rfl) (by kernel_rfl) (by kernel_rfl) (by kernel_rfl) (fun _ _ _ h => h) (Or.inl ⟨by rfl, ?_⟩) hHeld ?_
      · intro w hSw
        obtain ⟨⟨hg0, hg1⟩, hgf⟩ := hSw
        first
          | rfl
          | (go_simp; done)
      try simp only [Act.put, List.setIfInBounds_toArray, List.set_cons_zero, List.set_cons_succ]
      refine wpAnyT_take (i := 5) (oi := { dst := some 66, op := Op.move (Operand.tmp 0), type := 24, pos := "lines.go:132", after := #[], guard := none }) (v := .pointer (some ⟨g, 0, none⟩)) rfl (by kernel_rfl) (by kernel_rfl) (by kernel_rfl) (by kernel_rfl) (fun _ _ _ h => h) (Or.inl ⟨by rfl, ?_⟩) hHeld ?_
      · intro w hSw
        obtain ⟨⟨hg0, hg1⟩, hgf⟩ := hSw
        first
          | rfl
          | (go_simp; done)
      try simp only [Act.put, List.setIfInBounds_toArray, List.set_cons_zero, List.set_cons_succ]
      refine wpAnyT_take (i := 6) (oi := { dst := some 67, op := Op.nilCheck (Operand.tmp 66), type := 0, pos := "lines.go:132", after := #[{ on := 5, ground := Ground.data }], guard := none }) (v := .pointer (some ⟨g, 0, none⟩)) rfl (by kernel_rfl) (by kernel_rfl) (by kernel_rfl) (by kernel_rfl) (fun _ _ _ h => h) (Or.inl ⟨by rfl, ?_⟩) hHeld ?_
      · intro w hSw
        obtain ⟨⟨hg0, hg1⟩, hgf⟩ := hSw
        first
          | rfl
          | (go_simp; done)
      try simp only [Act.put, List.setIfInBounds_toArray, List.set_cons_zero, List.set_cons_succ]
      refine wpAnyT_take (i := 7) (oi := { dst := some 68, op := Op.fieldAddr 64 (Operand.tmp 67) 1, type := 0, pos := "lines.go:132", after := #[{ on := 6, ground := Ground.data }], guard := none }) (v := .pointer (some ⟨g, 1, none⟩)) rfl (by kernel_rfl) (by kernel_rfl) (by kernel_rfl) (by kernel_rfl) (fun _ _ _ h => h) (Or.inl ⟨by rfl, ?_⟩) hHeld ?_
      · intro w hSw
        obtain ⟨⟨hg0, hg1⟩, hgf⟩ := hSw
        first
          | rfl
          | (go_simp; done)
      try simp only [Act.put, List.setIfInBounds_toArray, List.set_cons_zero, List.set_cons_succ]
      refine wpAnyT_take (i := 8) (oi := { dst := some 69, op := Op.load 38 (Operand.tmp 68), type := 38, pos := "lines.go:132", after := #[{ on := 7, ground := Ground.data }], guard := none }) (v := .slice (some ⟨gs, 0, none⟩) m c_) rfl (by kernel_rfl) (by kernel_rfl) (by kernel_rfl) (by kernel_rfl) (fun _ _ _ h => h) (Or.inl ⟨by rfl, ?_⟩) hHeld ?_
      · intro w hSw
        obtain ⟨⟨hg0, hg1⟩, hgf⟩ := hSw
        first
          | rfl
          | (go_simp; done)
      try simp only [Act.put, List.setIfInBounds_toArray, List.set_cons_zero, List.set_cons_succ]
      refine wpAnyT_take (i := 9) (oi := { dst := some 70, op := Op.move (Operand.tmp 1), type := 3, pos := "lines.go:132", after := #[], guard := none }) (v := .int .i64 (f' : Int)) rfl (by kernel_rfl) (by kernel_rfl) (by kernel_rfl) (by kernel_rfl) (fun _ _ _ h => h) (Or.inl ⟨by rfl, ?_⟩) hHeld ?_
      · intro w hSw
        obtain ⟨⟨hg0, hg1⟩, hgf⟩ := hSw
        first
          | rfl
          | (go_simp; done)
      try simp only [Act.put, List.setIfInBounds_toArray, List.set_cons_zero, List.set_cons_succ]
      refine wpAnyT_take (i := 10) (oi := { dst := some 71, op := Op.indexAddr 38 (Operand.tmp 69) (Operand.tmp 70), type := 0, pos := "lines.go:132", after := #[{ on := 8, ground := Ground.data }, { on := 9, ground := Ground.data }], guard := none }) (v := .pointer (some ⟨gs, f', none⟩)) rfl (by kernel_rfl) (by kernel_rfl) (by kernel_rfl) (by kernel_rfl) (fun _ _ _ h => h) (Or.inl ⟨by rfl, ?_⟩) hHeld ?_
      · intro w hSw
        obtain ⟨⟨hg0, hg1⟩, hgf⟩ := hSw
        first
          | rfl
          | (go_simp; done)
      try simp only [Act.put, List.setIfInBounds_toArray, List.set_cons_zero, List.set_cons_succ]
      refine wpAnyT_take (i := 11) (oi := { dst := some 72, op := Op.load 3 (Operand.tmp 71), type := 3, pos := "lines.go:132", after := #[{ on := 10, ground := Ground.data }], guard := none }) (v := .int .i64 (F : Int)) rfl (by kernel_rfl) (by kernel_rfl) (by kernel_rfl) (by kernel_rfl) (fun _ _ _ h => h) (Or.inl ⟨by rfl, ?_⟩) hHeld ?_
      · intro w hSw
        obtain ⟨⟨hg0, hg1⟩, hgf⟩ := hSw
        first
          | rfl
          | (go_simp; done)
      try simp only [Act.put, List.setIfInBounds_toArray, List.set_cons_zero, List.set_cons_succ]
      refine wpAnyT_take (i := 12) (oi := { dst := some 73, op := Op.move (Operand.tmp 10), type := 40, pos := "lines.go:132", after := #[], guard := none }) (v := .slice a1 d (cr2 - F)) rfl (by kernel_rfl) (by kernel_rfl) (by kernel_rfl) (by kernel_rfl) (fun _ _ _ h => h) (Or.inl ⟨by rfl, ?_⟩) hHeld ?_
      · intro w hSw
        obtain ⟨⟨hg0, hg1⟩, hgf⟩ := hSw
        first
          | rfl
          | (go_simp; done)
      try simp only [Act.put, List.setIfInBounds_toArray, List.set_cons_zero, List.set_cons_succ]
      refine wpAnyT_take (i := 13) (oi := { dst := some 74, op := Op.call { callee := Callee.builtin Builtin.len, args := #[Operand.tmp 73], argTypes := #[40] }, type := 3, pos := "lines.go:132", after := #[{ on := 12, ground := Ground.data }], guard := none }) (v := .int .i64 (d : Int)) rfl (by kernel_rfl) (by kernel_rfl) (by kernel_rfl) (by kernel_rfl) (fun _ _ _ h => h) (Or.inl ⟨by rfl, ?_⟩) hHeld ?_
      · intro w hSw
        obtain ⟨⟨hg0, hg1⟩, hgf⟩ := hSw
        first
          | rfl
          | (go_simp; done)
      try simp only [Act.put, List.setIfInBounds_toArray, List.set_cons_zero, List.set_cons_succ]
      refine wpAnyT_one (i := 14) (o := { dst := some 75, op := Op.call { callee := Callee.value (Operand.func 62), args := #[Operand.tmp 65, Operand.tmp 72, Operand.tmp 74, Operand.const (Value.string { data := #[] })], argTypes := #[3, 3, 3, 9] }, type := 52, pos := "lines.go:132", after := #[{ on := 4, ground := Ground.data }, { on := 11, ground := Ground.data }, { on := 13, ground := Ground.data }], guard := none }) (by kernel_rfl) rfl (fun K hK => ?_)
      go_simp
      refine Calls.mono (unhide KQ1 _ (unhide BD2)) ?_
      rintro r w3 ⟨o1, oc1, om1, rfl, hom1, he1, b3⟩
      have hS3 : (w3.cell? ⟨g, 0, none⟩ = some (.slice (some ⟨gr, 0, none⟩) n cr2) ∧ w3.cell? ⟨g, 1, none⟩ = some (.slice (some ⟨gs, 0, none⟩) m c_)) ∧ w3.cell? ⟨gs, f', none⟩ = some (.int .i64 (F : Int)) := ⟨⟨kept b3 p0.1, kept b3 p0.2.1⟩, kept b3 p0.2.2⟩
      have BD3 := hide ((unhide BD2).trans (b3.mono (unhide BD2).size))
      have HE1 := hide he1
      have HOM1 := hide hom1
      clear b3 he1 hom1
      go_wp2_with fail
      refine hK.out _ _ (fun _ => hS3) ?_
      clear hK K
      try simp only [Act.put, List.setIfInBounds_toArray, List.set_cons_zero, List.set_cons_succ]
      refine wpAnyT_take (i := 15) (oi := { dst := some 60, op := Op.move (Operand.tmp 75), type := 52, pos := "lines.go:132", after := #[{ on := 14, ground := Ground.data }], guard := none }) (v := .tuple #[.slice o1 om1 oc1, .int .i64 0]) rfl (by kernel_rfl) (by kernel_rfl) (by kernel_rfl) (by kernel_rfl) (fun _ _ _ h => h) (Or.inl ⟨by rfl, ?_⟩) hS3 ?_
      · intro w hSw
        obtain ⟨⟨hg0, hg1⟩, hgf⟩ := hSw
        first
          | rfl
          | (go_simp; done)
      try simp only [Act.put, List.setIfInBounds_toArray, List.set_cons_zero, List.set_cons_succ]
      refine wpAnyT_take (i := 16) (oi := { dst := some 76, op := Op.extract (Operand.tmp 60) 0, type := 51, pos := "lines.go:132", after := #[{ on := 15, ground := Ground.data }], guard := none }) (v := .slice o1 om1 oc1) rfl (by kernel_rfl) (by kernel_rfl) (by kernel_rfl) (by kernel_rfl) (fun _ _ _ h => h) (Or.inl ⟨by rfl, ?_⟩) hS3 ?_
      · intro w hSw
        obtain ⟨⟨hg0, hg1⟩, hgf⟩ := hSw
        first
          | rfl
          | (go_simp; done)
      try simp only [Act.put, List.setIfInBounds_toArray, List.set_cons_zero, List.set_cons_succ]
      refine wpAnyT_take (i := 17) (oi := { dst := some 77, op := Op.extract (Operand.tmp 60) 1, type := 25, pos := "lines.go:132", after := #[{ on := 15, ground := Ground.data }, { on := 18, ground := Ground.gcOnly Departure.lateStores }], guard := none }) (v := .int .i64 0) rfl (by kernel_rfl) (by kernel_rfl) (by kernel_rfl) (by kernel_rfl) (fun _ _ _ h => h) (Or.inl ⟨by rfl, ?_⟩) hS3 ?_
      · intro w hSw
        obtain ⟨⟨hg0, hg1⟩, hgf⟩ := hSw
        first
          | rfl
          | (go_simp; done)
      try simp only [Act.put, List.setIfInBounds_toArray, List.set_cons_zero, List.set_cons_succ]
      refine wpAnyT_take (i := 18) (oi := { dst := some 12, op := Op.assign (Operand.tmp 76), type := 51, pos := "lines.go:132", after := #[{ on := 16, ground := Ground.data }, { on := 14, ground := Ground.chain }, { on := 0, ground := Ground.phase }, { on := 1, ground := Ground.phase }, { on := 2, ground := Ground.phase }, { on := 3, ground := Ground.phase }, { on := 4, ground := Ground.phase }, { on := 5, ground := Ground.phase }, { on := 6, ground := Ground.phase }, { on := 7, ground := Ground.phase }, { on := 8, ground := Ground.phase }, { on := 9, ground := Ground.phase }, { on := 10, ground := Ground.phase }, { on := 11, ground := Ground.phase }, { on := 12, ground := Ground.phase }, { on := 13, ground := Ground.phase }, { on := 14, ground := Ground.phase }, { on := 15, ground := Ground.phase }, { on := 16, ground := Ground.phase }, { on := 17, ground := Ground.textOnly Departure.lateStores }], guard := none }) (v := .slice o1 om1 oc1) rfl (by kernel_rfl) (by kernel_rfl) (by kernel_rfl) (by kernel_rfl) (fun _ _ _ h => h) (Or.inl ⟨by rfl, ?_⟩) hS3 ?_
      · intro w hSw
        obtain ⟨⟨hg0, hg1⟩, hgf⟩ := hSw
        first
          | rfl
          | (go_simp; done)
      try simp only [Act.put, List.setIfInBounds_toArray, List.set_cons_zero, List.set_cons_succ]
      refine wpAnyT_pure (i := 19) (oi := { dst := some 13, op := Op.assign (Operand.tmp 77), type := 25, pos := "lines.go:132", after := #[{ on := 17, ground := Ground.data }, { on := 18, ground := Ground.chain }, { on := 0, ground := Ground.phase }, { on := 1, ground := Ground.phase }, { on := 2, ground := Ground.phase }, { on := 3, ground := Ground.phase }, { on := 4, ground := Ground.phase }, { on := 5, ground := Ground.phase }, { on := 6, ground := Ground.phase }, { on := 7, ground := Ground.phase }, { on := 8, ground := Ground.phase }, { on := 9, ground := Ground.phase }, { on := 10, ground := Ground.phase }, { on := 11, ground := Ground.phase }, { on := 12, ground := Ground.phase }, { on := 13, ground := Ground.phase }, { on := 14, ground := Ground.phase }, { on := 15, ground := Ground.phase }, { on := 16, ground := Ground.phase }, { on := 17, ground := Ground.phase }, { on := 18, ground := Ground.phase }], guard := none }) (v := .int .i64 0) rfl (by kernel_rfl) (by kernel_rfl) (by kernel_rfl) rfl (fun _ _ _ h => h) (Or.inl ⟨by rfl, ?_⟩) ?_
      · intro w hSw
        first
          | rfl
          | (go_simp; done)
      try simp only [Act.put, List.setIfInBounds_toArray, List.set_cons_zero, List.set_cons_succ]
      refine wpAnyT_done (by kernel_rfl) ?_ _
      go_wp2_with fail
      have p4' : w3.cell? ⟨g, 0, none⟩ = some (.slice (some ⟨gr, 0, none⟩) n cr2) := hS3.1.1
      clear hS3
      refine wp_region_T (S := fun W => W.cell? ⟨g, 0, none⟩ = some (.slice (some ⟨gr, 0, none⟩) n cr2) ∧ ∀ c, (convert 40 9 (.slice a1 d c)).run Tryd.prog W = .ok (.string S) W) (fun i => decide (i < 16)) (by kernel_rfl) ⟨p4', unhide HCV _ (unhide BD3).drew⟩ (fun hHeld => ?_)
      have p4 : w3.drew.cell? ⟨g, 0, none⟩ = some (.slice (some ⟨gr, 0, none⟩) n cr2) := hHeld.1
      have BD4 := hide ((unhide BD3).drew)
      have HE14 := hide ((unhide HE1).call (Below.refl _ _).drew)
      obtain ⟨w4, hw4⟩ : ∃ z, w3.drew = z := ⟨_, rfl⟩
      rw [hw4] at BD4 hHeld p4 HE14 ⊢
      clear hw4 p4'
      refine wpAnyT_take (i := 0) (oi := { dst := some 79, op := Op.move (Operand.tmp 0), type := 24, pos := "lines.go:133", after := #[], guard := none }) (v := .pointer (some ⟨g, 0, none⟩)) rfl (by kernel_rfl) (by kernel_rfl) (by kernel_rfl) (by kernel_rfl) (fun _ _ _ h => h) (Or.inl ⟨by rfl, ?_⟩) hHeld ?_
      · intro w hSw
        obtain ⟨hg0, hcvW⟩ := hSw
        first
          | rfl
          | (go_simp; done)
      try simp only [Act.put, List.setIfInBounds_toArray, List.set_cons_zero, List.set_cons_succ]
      refine wpAnyT_take (i := 1) (oi := { dst := some 80, op := Op.nilCheck (Operand.tmp 79), type := 0, pos := "lines.go:133", after := #[{ on := 0, ground := Ground.data }], guard := none }) (v := .pointer (some ⟨g, 0, none⟩)) rfl (by kernel_rfl) (by kernel_rfl) (by kernel_rfl) (by kernel_rfl) (fun _ _ _ h => h) (Or.inl ⟨by rfl, ?_⟩) hHeld ?_
      · intro w hSw
        obtain ⟨hg0, hcvW⟩ := hSw
        first
          | rfl
          | (go_simp; done)
      try simp only [Act.put, List.setIfInBounds_toArray, List.set_cons_zero, List.set_cons_succ]
      refine wpAnyT_take (i := 2) (oi := { dst := some 81, op := Op.fieldAddr 64 (Operand.tmp 80) 0, type := 0, pos := "lines.go:133", after := #[{ on := 1, ground := Ground.data }], guard := none }) (v := .pointer (some ⟨g, 0, none⟩)) rfl (by kernel_rfl) (by kernel_rfl) (by kernel_rfl) (by kernel_rfl) (fun _ _ _ h => h) (Or.inl ⟨by rfl, ?_⟩) hHeld ?_
      · intro w hSw
        obtain ⟨hg0, hcvW⟩ := hSw
        first
          | rfl
          | (go_simp; done)
      try simp only [Act.put, List.setIfInBounds_toArray, List.set_cons_zero, List.set_cons_succ]
      refine wpAnyT_take (i := 3) (oi := { dst := some 82, op := Op.load 40 (Operand.tmp 81), type := 40, pos := "lines.go:133", after := #[{ on := 2, ground := Ground.data }], guard := none }) (v := .slice (some ⟨gr, 0, none⟩) n cr2) rfl (by kernel_rfl) (by kernel_rfl) (by kernel_rfl) (by kernel_rfl) (fun _ _ _ h => h) (Or.inl ⟨by rfl, ?_⟩) hHeld ?_
      · intro w hSw
        obtain ⟨hg0, hcvW⟩ := hSw
        first
          | rfl
          | (go_simp; done)
      try simp only [Act.put, List.setIfInBounds_toArray, List.set_cons_zero, List.set_cons_succ]
      refine wpAnyT_take (i := 4) (oi := { dst := some 83, op := Op.call { callee := Callee.builtin Builtin.len, args := #[Operand.tmp 82], argTypes := #[40] }, type := 3, pos := "lines.go:133", after := #[{ on := 3, ground := Ground.data }], guard := none }) (v := .int .i64 (n : Int)) rfl (by kernel_rfl) (by kernel_rfl) (by kernel_rfl) (by kernel_rfl) (fun _ _ _ h => h) (Or.inl ⟨by rfl, ?_⟩) hHeld ?_
      · intro w hSw
        obtain ⟨hg0, hcvW⟩ := hSw
        first
          | rfl
          | (go_simp; done)
      try simp only [Act.put, List.setIfInBounds_toArray, List.set_cons_zero, List.set_cons_succ]
      refine wpAnyT_take (i := 5) (oi := { dst := some 84, op := Op.move (Operand.tmp 10), type := 40, pos := "lines.go:133", after := #[], guard := none }) (v := .slice a1 d (cr2 - F)) rfl (by kernel_rfl) (by kernel_rfl) (by kernel_rfl) (by kernel_rfl) (fun _ _ _ h => h) (Or.inl ⟨by rfl, ?_⟩) hHeld ?_
      · intro w hSw
        obtain ⟨hg0, hcvW⟩ := hSw
        first
          | rfl
          | (go_simp; done)
      try simp only [Act.put, List.setIfInBounds_toArray, List.set_cons_zero, List.set_cons_succ]
      refine wpAnyT_take (i := 6) (oi := { dst := some 85, op := Op.call { callee := Callee.builtin Builtin.len, args := #[Operand.tmp 84], argTypes := #[40] }, type := 3, pos := "lines.go:133", after := #[{ on := 5, ground := Ground.data }], guard := none }) (v := .int .i64 (d : Int)) rfl (by kernel_rfl) (by kernel_rfl) (by kernel_rfl) (by kernel_rfl) (fun _ _ _ h => h) (Or.inl ⟨by rfl, ?_⟩) hHeld ?_
      · intro w hSw
        obtain ⟨hg0, hcvW⟩ := hSw
        first
          | rfl
          | (go_simp; done)
      try simp only [Act.put, List.setIfInBounds_toArray, List.set_cons_zero, List.set_cons_succ]
      refine wpAnyT_take (i := 7) (oi := { dst := some 86, op := Op.binOp BinOp.sub 3 (Operand.tmp 83) (Operand.tmp 85) 3, type := 3, pos := "lines.go:133", after := #[{ on := 4, ground := Ground.data }, { on := 6, ground := Ground.data }], guard := none }) (v := .int .i64 ((n : Int) - (d : Int))) rfl (by kernel_rfl) (by kernel_rfl) (by kernel_rfl) (by kernel_rfl) (fun _ _ _ h => h) (Or.inl ⟨by rfl, ?_⟩) hHeld ?_
      · intro w hSw
        obtain ⟨hg0, hcvW⟩ := hSw
        first
          | (go_simp; done)
          | (go_simp; rw [IntKind.wrap_i64] <;> omega)
      try simp only [Act.put, List.setIfInBounds_toArray, List.set_cons_zero, List.set_cons_succ]
      refine wpAnyT_take (i := 8) (oi := { dst := some 87, op := Op.move (Operand.tmp 11), type := 3, pos := "lines.go:133", after := #[], guard := none }) (v := .int .i64 (p : Int)) rfl (by kernel_rfl) (by kernel_rfl) (by kernel_rfl) (by kernel_rfl) (fun _ _ _ h => h) (Or.inl ⟨by rfl, ?_⟩) hHeld ?_
      · intro w hSw
        obtain ⟨hg0, hcvW⟩ := hSw
        first
          | rfl
          | (go_simp; done)
      try simp only [Act.put, List.setIfInBounds_toArray, List.set_cons_zero, List.set_cons_succ]
      refine wpAnyT_take (i := 9) (oi := { dst := some 88, op := Op.move (Operand.tmp 10), type := 40, pos := "lines.go:133", after := #[], guard := none }) (v := .slice a1 d (cr2 - F)) rfl (by kernel_rfl) (by kernel_rfl) (by kernel_rfl) (by kernel_rfl) (fun _ _ _ h => h) (Or.inl ⟨by rfl, ?_⟩) hHeld ?_
      · intro w hSw
        obtain ⟨hg0, hcvW⟩ := hSw
        first
          | rfl
          | (go_simp; done)
      try simp only [Act.put, List.setIfInBounds_toArray, List.set_cons_zero, List.set_cons_succ]
      refine wpAnyT_take (i := 10) (oi := { dst := some 89, op := Op.convert 40 9 (Operand.tmp 88), type := 9, pos := "lines.go:133", after := #[{ on := 9, ground := Ground.data }], guard := none }) (v := .string S) rfl (by kernel_rfl) (by kernel_rfl) (by kernel_rfl) (by kernel_rfl) (fun _ _ _ h => h) (Or.inl ⟨by rfl, ?_⟩) hHeld ?_
      · intro w hSw
        obtain ⟨hg0, hcvW⟩ := hSw
        first
          | rfl
          | (go_simp; done)
          | (go_simp; rw [hcvW]; done)
          | exact ⟨_, hcvW _⟩
      try simp only [Act.put, List.setIfInBounds_toArray, List.set_cons_zero, List.set_cons_succ]
      refine wpAnyT_one (i := 11) (o := { dst := some 90, op := Op.call { callee := Callee.value (Operand.func 62), args := #[Operand.tmp 86, Operand.tmp 87, Operand.const (Value.int IntKind.i64 0), Operand.tmp 89], argTypes := #[3, 3, 3, 9] }, type := 52, pos := "lines.go:133", after := #[{ on := 7, ground := Ground.data }, { on := 8, ground := Ground.data }, { on := 10, ground := Ground.data }], guard := none }) (by kernel_rfl) rfl (fun K hK => ?_)
      go_simp
      refine Calls.mono (unhide KQ2 _ (unhide BD4)) ?_
      rintro r w5 ⟨o2, oc2, om2, rfl, hom2, he2, b5⟩
      have HE2 := hide he2
      have HE15 := hide ((unhide HE14).call b5)
      have HOM2 := hide hom2
      have BD5 := hide ((unhide BD4).trans (b5.mono (unhide BD4).size))
      have hS5 : w5.cell? ⟨g, 0, none⟩ = some (.slice (some ⟨gr, 0, none⟩) n cr2) ∧ ∀ c, (convert 40 9 (.slice a1 d c)).run Tryd.prog w5 = .ok (.string S) w5 := ⟨kept b5 p4, unhide HCV _ (unhide BD5)⟩
      clear b5 he2 hom2
      go_wp2_with fail
      refine hK.out _ _ (fun _ => hS5) ?_
      clear hK K
      try simp only [Act.put, List.setIfInBounds_toArray, List.set_cons_zero, List.set_cons_succ]
      refine wpAnyT_take (i := 12) (oi := { dst := some 78, op := Op.move (Operand.tmp 90), type := 52, pos := "lines.go:133", after := #[{ on := 11, ground := Ground.data }], guard := none }) (v := .tuple #[.slice o2 om2 oc2, .int .i64 0]) rfl (by kernel_rfl) (by kernel_rfl) (by kernel_rfl) (by kernel_rfl) (fun _ _ _ h => h) (Or.inl ⟨by rfl, ?_⟩) hS5 ?_
      · intro w hSw
        obtain ⟨hg0, hcvW⟩ := hSw
        first
          | rfl
          | (go_simp; done)
      try simp only [Act.put, List.setIfInBounds_toArray, List.set_cons_zero, List.set_cons_succ]
      refine wpAnyT_take (i := 13) (oi := { dst := some 91, op := Op.extract (Operand.tmp 78) 0, type := 51, pos := "lines.go:133", after := #[{ on := 12, ground := Ground.data }], guard := none }) (v := .slice o2 om2 oc2) rfl (by kernel_rfl) (by kernel_rfl) (by kernel_rfl) (by kernel_rfl) (fun _ _ _ h => h) (Or.inl ⟨by rfl, ?_⟩) hS5 ?_
      · intro w hSw
        obtain ⟨hg0, hcvW⟩ := hSw
        first
          | rfl
          | (go_simp; done)
      try simp only [Act.put, List.setIfInBounds_toArray, List.set_cons_zero, List.set_cons_succ]
      refine wpAnyT_take (i := 14) (oi := { dst := some 92, op := Op.extract (Operand.tmp 78) 1, type := 25, pos := "lines.go:133", after := #[{ on := 12, ground := Ground.data }, { on := 15, ground := Ground.gcOnly Departure.lateStores }], guard := none }) (v := .int .i64 0) rfl (by kernel_rfl) (by kernel_rfl) (by kernel_rfl) (by kernel_rfl) (fun _ _ _ h => h) (Or.inl ⟨by rfl, ?_⟩) hS5 ?_
      · intro w hSw
        obtain ⟨hg0, hcvW⟩ := hSw
        first
          | rfl
          | (go_simp; done)
      try simp only [Act.put, List.setIfInBounds_toArray, List.set_cons_zero, List.set_cons_succ]
      refine wpAnyT_take (i := 15) (oi := { dst := some 14, op := Op.assign (Operand.tmp 91), type := 51, pos := "lines.go:133", after := #[{ on := 13, ground := Ground.data }, { on := 11, ground := Ground.chain }, { on := 0, ground := Ground.phase }, { on := 1, ground := Ground.phase }, { on := 2, ground := Ground.phase }, { on := 3, ground := Ground.phase }, { on := 4, ground := Ground.phase }, { on := 5, ground := Ground.phase }, { on := 6, ground := Ground.phase }, { on := 7, ground := Ground.phase }, { on := 8, ground := Ground.phase }, { on := 9, ground := Ground.phase }, { on := 10, ground := Ground.phase }, { on := 11, ground := Ground.phase }, { on := 12, ground := Ground.phase }, { on := 13, ground := Ground.phase }, { on := 14, ground := Ground.textOnly Departure.lateStores }], guard := none }) (v := .slice o2 om2 oc2) rfl (by kernel_rfl) (by kernel_rfl) (by kernel_rfl) (by kernel_rfl) (fun _ _ _ h => h) (Or.inl ⟨by rfl, ?_⟩) hS5 ?_
      · intro w hSw
        obtain ⟨hg0, hcvW⟩ := hSw
        first
          | rfl
          | (go_simp; done)
      try simp only [Act.put, List.setIfInBounds_toArray, List.set_cons_zero, List.set_cons_succ]
      refine wpAnyT_pure (i := 16) (oi := { dst := some 15, op := Op.assign (Operand.tmp 92), type := 25, pos := "lines.go:133", after := #[{ on := 14, ground := Ground.data }, { on := 15, ground := Ground.chain }, { on := 0, ground := Ground.phase }, { on := 1, ground := Ground.phase }, { on := 2, ground := Ground.phase }, { on := 3, ground := Ground.phase }, { on := 4, ground := Ground.phase }, { on := 5, ground := Ground.phase }, { on := 6, ground := Ground.phase }, { on := 7, ground := Ground.phase }, { on := 8, ground := Ground.phase }, { on := 9, ground := Ground.phase }, { on := 10, ground := Ground.phase }, { on := 11, ground := Ground.phase }, { on := 12, ground := Ground.phase }, { on := 13, ground := Ground.phase }, { on := 14, ground := Ground.phase }, { on := 15, ground := Ground.phase }], guard := none }) (v := .int .i64 0) rfl (by kernel_rfl) (by kernel_rfl) (by kernel_rfl) rfl (fun _ _ _ h => h) (Or.inl ⟨by rfl, ?_⟩) ?_
      · intro w hSw
        first
          | rfl
          | (go_simp; done)
      try simp only [Act.put, List.setIfInBounds_toArray, List.set_cons_zero, List.set_cons_succ]
      refine wpAnyT_done (by kernel_rfl) ?_ _
      have KC := hide (compose_at (unhide HU _ (unhide BD5)) (unhide HE15) (unhide HE2) (unhide HOM1) (unhide HOM2) (by have h8 := (unhide HO12).1.2.2.2; have h9 := (unhide HO12).2.2.2.2; have h7 := unhide HOM1; have h6 := unhide HOM2; omega) (Below.refl _ _))
      go_wp2_with fail
      refine Calls.mono (unhide KC) ?_
      rintro r w6 ⟨⟨⟨h6, _⟩ | ⟨_, v6, e6, rfl, ho6, nf6, at6, _⟩, _⟩, b6⟩
      · exfalso
        rw [ed_comB (unhide HO12).1.2.1 (by have h9 := (unhide HO12).2.2.1; rw [← unhide HDD]; rw [← unhide HDD] at h9; exact h9)] at h6
        cases h6
      · have BD6 := hide ((unhide BD5).trans (b6.mono (unhide BD5).size))
        have HO6 := hide (OwnP.base ho6 (unhide BD5).size)
        have HNF := hide (And.intro nf6 at6)
        obtain ⟨a6, c6, rfl, _, _, _⟩ := OwnP.slice ho6
        clear ho6 b6 nf6 at6
        go_wp2_with fail
        go_ret2
        refine ⟨.inr ⟨unhide HM, _, _, rfl, unhide HO6, (unhide HNF).1, ?_⟩, unhide BD6⟩
        have h9 := (unhide HNF).2
        rw [(unhide HO12).1.2.2.1, (unhide HO12).2.2.2.1] at h9
        simp only [Int.toNat_natCast]
        rw [(unhide HFEP).1, (unhide HFEP).2.1, (unhide HFEP).2.2]
        unfold mvA
        rw [unhide HN, unhide HDD]
        exact h9
    · rw [if_neg hft] at hp2
      have hftI : ¬ (f' : Int) < (t' : Int) := by omega
      obtain rfl : p = A := by omega
      clear hp2 hft hgt
      go_wp2_with fail
      refine wp_region_T (S := fun W => (W.cell? ⟨g, 0, none⟩ = some (.slice (some ⟨gr, 0, none⟩) n cr2) ∧ W.cell? ⟨g, 1, none⟩ = some (.slice (some ⟨gs, 0, none⟩) m c_)) ∧ W.cell? ⟨gs, f', none⟩ = some (.int .i64 (F : Int))) (fun i => decide (i < 19)) (by kernel_rfl) ⟨⟨p0, p1⟩, pf⟩ (fun hHeld => ?_)
      have p9 : (w1.drew.cell? ⟨g, 0, none⟩ = some (.slice (some ⟨gr, 0, none⟩) n cr2) ∧ w1.drew.cell? ⟨g, 1, none⟩ = some (.slice (some ⟨gs, 0, none⟩) m c_)) ∧ w1.drew.cell? ⟨gs, f', none⟩ = some (.int .i64 (F : Int)) := hHeld
      obtain ⟨w2, hw2⟩ : ∃ z, w1.drew = z := ⟨_, rfl⟩
      have BD2 := hide ((unhide BD).drew)
      rw [hw2] at BD2 hHeld p9 ⊢
      have p0 : w2.cell? ⟨g, 0, none⟩ = some (.slice (some ⟨gr, 0, none⟩) n cr2) ∧ w2.cell? ⟨g, 1, none⟩ = some (.slice (some ⟨gs, 0, none⟩) m c_) ∧ w2.cell? ⟨gs, f', none⟩ = some (.int .i64 (F : Int)) := ⟨p9.1.1, p9.1.2, p9.2⟩
      clear p1 pf pt p9 hw2
      refine wpAnyT_take (i := 0) (oi := { dst := some 61, op := Op.move (Operand.tmp 0), type := 24, pos := "lines.go:132", after := #[], guard := none }) (v := .pointer (some ⟨g, 0, none⟩)) rfl (by kernel_rfl) (by kernel_rfl) (by kernel_rfl) (by kernel_rfl) (fun _ _ _ h => h) (Or.inl ⟨by rfl, ?_⟩) hHeld ?_
      · intro w hSw
        obtain ⟨⟨hg0, hg1⟩, hgf⟩ := hSw
        first
          | rfl
          | (go_simp; done)
      try simp only [Act.put, List.setIfInBounds_toArray, List.set_cons_zero, List.set_cons_succ]
      refine wpAnyT_take (i := 1) (oi := { dst := some 62, op := Op.nilCheck (Operand.tmp 61), type := 0, pos := "lines.go:132", after := #[{ on := 0, ground := Ground.data }], guard := none }) (v := .pointer (some ⟨g, 0, none⟩)) rfl (by kernel_rfl) (by kernel_rfl) (by kernel_rfl) (by kernel_rfl) (fun _ _ _ h => h) (Or.inl ⟨by rfl, ?_⟩) hHeld ?_
      · intro w hSw
        obtain ⟨⟨hg0, hg1⟩, hgf⟩ := hSw
        first
          | rfl
          | (go_simp; done)
      try simp only [Act.put, List.setIfInBounds_toArray, List.set_cons_zero, List.set_cons_succ]
      refine wpAnyT_take (i := 2) (oi := { dst := some 63, op := Op.fieldAddr 64 (Operand.tmp 62) 0, type := 0, pos := "lines.go:132", after := #[{ on := 1, ground := Ground.data }], guard := none }) (v := .pointer (some ⟨g, 0, none⟩)) rfl (by kernel_rfl) (by kernel_rfl) (by kernel_rfl) (by kernel_rfl) (fun _ _ _ h => h) (Or.inl ⟨by rfl, ?_⟩) hHeld ?_
      · intro w hSw
        obtain ⟨⟨hg0, hg1⟩, hgf⟩ := hSw
        first
          | rfl
          | (go_simp; done)
      try simp only [Act.put, List.setIfInBounds_toArray, List.set_cons_zero, List.set_cons_succ]
      refine wpAnyT_take (i := 3) (oi := { dst := some 64, op := Op.load 40 (Operand.tmp 63), type := 40, pos := "lines.go:132", after := #[{ on := 2, ground := Ground.data }], guard := none }) (v := .slice (some ⟨gr, 0, none⟩) n cr2) rfl (by kernel_rfl) (by kernel_rfl) (by kernel_rfl) (by kernel_rfl) (fun _ _ _ h => h) (Or.inl ⟨by rfl, ?_⟩) hHeld ?_
      · intro w hSw
        obtain ⟨⟨hg0, hg1⟩, hgf⟩ := hSw
        first
          | rfl
          | (go_simp; done)
      try simp only [Act.put, List.setIfInBounds_toArray, List.set_cons_zero, List.set_cons_succ]
      refine wpAnyT_take (i := 4) (oi := { dst := some 65, op := Op.call { callee := Callee.builtin Builtin.len, args := #[Operand.tmp 64], argTypes := #[40] }, type := 3, pos := "lines.go:132", after := #[{ on := 3, ground := Ground.data }], guard := none }) (v := .int .i64 (n : Int)) rfl (by kernel_rfl) (by kernel_rfl) (by kernel_rfl) (by kernel_rfl) (fun _ _ _ h => h) (Or.inl ⟨by rfl, ?_⟩) hHeld ?_
      · intro w hSw
        obtain ⟨⟨hg0, hg1⟩, hgf⟩ := hSw
        first
          | rfl
          | (go_simp; done)
      try simp only [Act.put, List.setIfInBounds_toArray, List.set_cons_zero, List.set_cons_succ]
      refine wpAnyT_take (i := 5) (oi := { dst := some 66, op := Op.move (Operand.tmp 0), type := 24, pos := "lines.go:132", after := #[], guard := none }) (v := .pointer (some ⟨g, 0, none⟩)) rfl (by kernel_rfl) (by kernel_rfl) (by kernel_rfl) (by kernel_rfl) (fun _ _ _ h => h) (Or.inl ⟨by rfl, ?_⟩) hHeld ?_
      · intro w hSw
        obtain ⟨⟨hg0, hg1⟩, hgf⟩ := hSw
        first
          | rfl
          | (go_simp; done)
      try simp only [Act.put, List.setIfInBounds_toArray, List.set_cons_zero, List.set_cons_succ]
      refine wpAnyT_take (i := 6) (oi := { dst := some 67, op := Op.nilCheck (Operand.tmp 66), type := 0, pos := "lines.go:132", after := #[{ on := 5, ground := Ground.data }], guard := none }) (v := .pointer (some ⟨g, 0, none⟩)) rfl (by kernel_rfl) (by kernel_rfl) (by kernel_rfl) (by kernel_rfl) (fun _ _ _ h => h) (Or.inl ⟨by rfl, ?_⟩) hHeld ?_
      · intro w hSw
        obtain ⟨⟨hg0, hg1⟩, hgf⟩ := hSw
        first
          | rfl
          | (go_simp; done)
      try simp only [Act.put, List.setIfInBounds_toArray, List.set_cons_zero, List.set_cons_succ]
      refine wpAnyT_take (i := 7) (oi := { dst := some 68, op := Op.fieldAddr 64 (Operand.tmp 67) 1, type := 0, pos := "lines.go:132", after := #[{ on := 6, ground := Ground.data }], guard := none }) (v := .pointer (some ⟨g, 1, none⟩)) rfl (by kernel_rfl) (by kernel_rfl) (by kernel_rfl) (by kernel_rfl) (fun _ _ _ h => h) (Or.inl ⟨by rfl, ?_⟩) hHeld ?_
      · intro w hSw
        obtain ⟨⟨hg0, hg1⟩, hgf⟩ := hSw
        first
          | rfl
          | (go_simp; done)
      try simp only [Act.put, List.setIfInBounds_toArray, List.set_cons_zero, List.set_cons_succ]
      refine wpAnyT_take (i := 8) (oi := { dst := some 69, op := Op.load 38 (Operand.tmp 68), type := 38, pos := "lines.go:132", after := #[{ on := 7, ground := Ground.data }], guard := none }) (v := .slice (some ⟨gs, 0, none⟩) m c_) rfl (by kernel_rfl) (by kernel_rfl) (by kernel_rfl) (by kernel_rfl) (fun _ _ _ h => h) (Or.inl ⟨by rfl, ?_⟩) hHeld ?_
      · intro w hSw
        obtain ⟨⟨hg0, hg1⟩, hgf⟩ := hSw
        first
          | rfl
          | (go_simp; done)
      try simp only [Act.put, List.setIfInBounds_toArray, List.set_cons_zero, List.set_cons_succ]
      refine wpAnyT_take (i := 9) (oi := { dst := some 70, op := Op.move (Operand.tmp 1), type := 3, pos := "lines.go:132", after := #[], guard := none }) (v := .int .i64 (f' : Int)) rfl (by kernel_rfl) (by kernel_rfl) (by kernel_rfl) (by kernel_rfl) (fun _ _ _ h => h) (Or.inl ⟨by rfl, ?_⟩) hHeld ?_
      · intro w hSw
        obtain ⟨⟨hg0, hg1⟩, hgf⟩ := hSw
        first
          | rfl
          | (go_simp; done)
      try simp only [Act.put, List.setIfInBounds_toArray, List.set_cons_zero, List.set_cons_succ]
      refine wpAnyT_take (i := 10) (oi := { dst := some 71, op := Op.indexAddr 38 (Operand.tmp 69) (Operand.tmp 70), type := 0, pos := "lines.go:132", after := #[{ on := 8, ground := Ground.data }, { on := 9, ground := Ground.data }], guard := none }) (v := .pointer (some ⟨gs, f', none⟩)) rfl (by kernel_rfl) (by kernel_rfl) (by kernel_rfl) (by kernel_rfl) (fun _ _ _ h => h) (Or.inl ⟨by rfl, ?_⟩) hHeld ?_
      · intro w hSw
        obtain ⟨⟨hg0, hg1⟩, hgf⟩ := hSw
        first
          | rfl
          | (go_simp; done)
      try simp only [Act.put, List.setIfInBounds_toArray, List.set_cons_zero, List.set_cons_succ]
      refine wpAnyT_take (i := 11) (oi := { dst := some 72, op := Op.load 3 (Operand.tmp 71), type := 3, pos := "lines.go:132", after := #[{ on := 10, ground := Ground.data }], guard := none }) (v := .int .i64 (F : Int)) rfl (by kernel_rfl) (by kernel_rfl) (by kernel_rfl) (by kernel_rfl) (fun _ _ _ h => h) (Or.inl ⟨by rfl, ?_⟩) hHeld ?_
      · intro w hSw
        obtain ⟨⟨hg0, hg1⟩, hgf⟩ := hSw
        first
          | rfl
          | (go_simp; done)
      try simp only [Act.put, List.setIfInBounds_toArray, List.set_cons_zero, List.set_cons_succ]
      refine wpAnyT_take (i := 12) (oi := { dst := some 73, op := Op.move (Operand.tmp 10), type := 40, pos := "lines.go:132", after := #[], guard := none }) (v := .slice a1 d (cr2 - F)) rfl (by kernel_rfl) (by kernel_rfl) (by kernel_rfl) (by kernel_rfl) (fun _ _ _ h => h) (Or.inl ⟨by rfl, ?_⟩) hHeld ?_
      · intro w hSw
        obtain ⟨⟨hg0, hg1⟩, hgf⟩ := hSw
        first
          | rfl
          | (go_simp; done)
      try simp only [Act.put, List.setIfInBounds_toArray, List.set_cons_zero, List.set_cons_succ]
      refine wpAnyT_take (i := 13) (oi := { dst := some 74, op := Op.call { callee := Callee.builtin Builtin.len, args := #[Operand.tmp 73], argTypes := #[40] }, type := 3, pos := "lines.go:132", after := #[{ on := 12, ground := Ground.data }], guard := none }) (v := .int .i64 (d : Int)) rfl (by kernel_rfl) (by kernel_rfl) (by kernel_rfl) (by kernel_rfl) (fun _ _ _ h => h) (Or.inl ⟨by rfl, ?_⟩) hHeld ?_
      · intro w hSw
        obtain ⟨⟨hg0, hg1⟩, hgf⟩ := hSw
        first
          | rfl
          | (go_simp; done)
      try simp only [Act.put, List.setIfInBounds_toArray, List.set_cons_zero, List.set_cons_succ]
      refine wpAnyT_one (i := 14) (o := { dst := some 75, op := Op.call { callee := Callee.value (Operand.func 62), args := #[Operand.tmp 65, Operand.tmp 72, Operand.tmp 74, Operand.const (Value.string { data := #[] })], argTypes := #[3, 3, 3, 9] }, type := 52, pos := "lines.go:132", after := #[{ on := 4, ground := Ground.data }, { on := 11, ground := Ground.data }, { on := 13, ground := Ground.data }], guard := none }) (by kernel_rfl) rfl (fun K hK => ?_)
      go_simp
      refine Calls.mono (unhide KQ1 _ (unhide BD2)) ?_
      rintro r w3 ⟨o1, oc1, om1, rfl, hom1, he1, b3⟩
      have hS3 : (w3.cell? ⟨g, 0, none⟩ = some (.slice (some ⟨gr, 0, none⟩) n cr2) ∧ w3.cell? ⟨g, 1, none⟩ = some (.slice (some ⟨gs, 0, none⟩) m c_)) ∧ w3.cell? ⟨gs, f', none⟩ = some (.int .i64 (F : Int)) := ⟨⟨kept b3 p0.1, kept b3 p0.2.1⟩, kept b3 p0.2.2⟩
      have BD3 := hide ((unhide BD2).trans (b3.mono (unhide BD2).size))
      have HE1 := hide he1
      have HOM1 := hide hom1
      clear b3 he1 hom1
      go_wp2_with fail
      refine hK.out _ _ (fun _ => hS3) ?_
      clear hK K
      try simp only [Act.put, List.setIfInBounds_toArray, List.set_cons_zero, List.set_cons_succ]
      refine wpAnyT_take (i := 15) (oi := { dst := some 60, op := Op.move (Operand.tmp 75), type := 52, pos := "lines.go:132", after := #[{ on := 14, ground := Ground.data }], guard := none }) (v := .tuple #[.slice o1 om1 oc1, .int .i64 0]) rfl (by kernel_rfl) (by kernel_rfl) (by kernel_rfl) (by kernel_rfl) (fun _ _ _ h => h) (Or.inl ⟨by rfl, ?_⟩) hS3 ?_
      · intro w hSw
        obtain ⟨⟨hg0, hg1⟩, hgf⟩ := hSw
        first
          | rfl
          | (go_simp; done)
      try simp only [Act.put, List.setIfInBounds_toArray, List.set_cons_zero, List.set_cons_succ]
      refine wpAnyT_take (i := 16) (oi := { dst := some 76, op := Op.extract (Operand.tmp 60) 0, type := 51, pos := "lines.go:132", after := #[{ on := 15, ground := Ground.data }], guard := none }) (v := .slice o1 om1 oc1) rfl (by kernel_rfl) (by kernel_rfl) (by kernel_rfl) (by kernel_rfl) (fun _ _ _ h => h) (Or.inl ⟨by rfl, ?_⟩) hS3 ?_
      · intro w hSw
        obtain ⟨⟨hg0, hg1⟩, hgf⟩ := hSw
        first
          | rfl
          | (go_simp; done)
      try simp only [Act.put, List.setIfInBounds_toArray, List.set_cons_zero, List.set_cons_succ]
      refine wpAnyT_take (i := 17) (oi := { dst := some 77, op := Op.extract (Operand.tmp 60) 1, type := 25, pos := "lines.go:132", after := #[{ on := 15, ground := Ground.data }, { on := 18, ground := Ground.gcOnly Departure.lateStores }], guard := none }) (v := .int .i64 0) rfl (by kernel_rfl) (by kernel_rfl) (by kernel_rfl) (by kernel_rfl) (fun _ _ _ h => h) (Or.inl ⟨by rfl, ?_⟩) hS3 ?_
      · intro w hSw
        obtain ⟨⟨hg0, hg1⟩, hgf⟩ := hSw
        first
          | rfl
          | (go_simp; done)
      try simp only [Act.put, List.setIfInBounds_toArray, List.set_cons_zero, List.set_cons_succ]
      refine wpAnyT_take (i := 18) (oi := { dst := some 12, op := Op.assign (Operand.tmp 76), type := 51, pos := "lines.go:132", after := #[{ on := 16, ground := Ground.data }, { on := 14, ground := Ground.chain }, { on := 0, ground := Ground.phase }, { on := 1, ground := Ground.phase }, { on := 2, ground := Ground.phase }, { on := 3, ground := Ground.phase }, { on := 4, ground := Ground.phase }, { on := 5, ground := Ground.phase }, { on := 6, ground := Ground.phase }, { on := 7, ground := Ground.phase }, { on := 8, ground := Ground.phase }, { on := 9, ground := Ground.phase }, { on := 10, ground := Ground.phase }, { on := 11, ground := Ground.phase }, { on := 12, ground := Ground.phase }, { on := 13, ground := Ground.phase }, { on := 14, ground := Ground.phase }, { on := 15, ground := Ground.phase }, { on := 16, ground := Ground.phase }, { on := 17, ground := Ground.textOnly Departure.lateStores }], guard := none }) (v := .slice o1 om1 oc1) rfl (by kernel_rfl) (by kernel_rfl) (by kernel_rfl) (by kernel_rfl) (fun _ _ _ h => h) (Or.inl ⟨by rfl, ?_⟩) hS3 ?_
      · intro w hSw
        obtain ⟨⟨hg0, hg1⟩, hgf⟩ := hSw
        first
          | rfl
          | (go_simp; done)
      try simp only [Act.put, List.setIfInBounds_toArray, List.set_cons_zero, List.set_cons_succ]
      refine wpAnyT_pure (i := 19) (oi := { dst := some 13, op := Op.assign (Operand.tmp 77), type := 25, pos := "lines.go:132", after := #[{ on := 17, ground := Ground.data }, { on := 18, ground := Ground.chain }, { on := 0, ground := Ground.phase }, { on := 1, ground := Ground.phase }, { on := 2, ground := Ground.phase }, { on := 3, ground := Ground.phase }, { on := 4, ground := Ground.phase }, { on := 5, ground := Ground.phase }, { on := 6, ground := Ground.phase }, { on := 7, ground := Ground.phase }, { on := 8, ground := Ground.phase }, { on := 9, ground := Ground.phase }, { on := 10, ground := Ground.phase }, { on := 11, ground := Ground.phase }, { on := 12, ground := Ground.phase }, { on := 13, ground := Ground.phase }, { on := 14, ground := Ground.phase }, { on := 15, ground := Ground.phase }, { on := 16, ground := Ground.phase }, { on := 17, ground := Ground.phase }, { on := 18, ground := Ground.phase }], guard := none }) (v := .int .i64 0) rfl (by kernel_rfl) (by kernel_rfl) (by kernel_rfl) rfl (fun _ _ _ h => h) (Or.inl ⟨by rfl, ?_⟩) ?_
      · intro w hSw
        first
          | rfl
          | (go_simp; done)
      try simp only [Act.put, List.setIfInBounds_toArray, List.set_cons_zero, List.set_cons_succ]
      refine wpAnyT_done (by kernel_rfl) ?_ _
      go_wp2_with fail
      have p4' : w3.cell? ⟨g, 0, none⟩ = some (.slice (some ⟨gr, 0, none⟩) n cr2) := hS3.1.1
      clear hS3
      refine wp_region_T (S := fun W => W.cell? ⟨g, 0, none⟩ = some (.slice (some ⟨gr, 0, none⟩) n cr2) ∧ ∀ c, (convert 40 9 (.slice a1 d c)).run Tryd.prog W = .ok (.string S) W) (fun i => decide (i < 16)) (by kernel_rfl) ⟨p4', unhide HCV _ (unhide BD3).drew⟩ (fun hHeld => ?_)
      have p4 : w3.drew.cell? ⟨g, 0, none⟩ = some (.slice (some ⟨gr, 0, none⟩) n cr2) := hHeld.1
      have BD4 := hide ((unhide BD3).drew)
      have HE14 := hide ((unhide HE1).call (Below.refl _ _).drew)
      obtain ⟨w4, hw4⟩ : ∃ z, w3.drew = z := ⟨_, rfl⟩
      rw [hw4] at BD4 hHeld p4 HE14 ⊢
      clear hw4 p4'
      refine wpAnyT_take (i := 0) (oi := { dst := some 79, op := Op.move (Operand.tmp 0), type := 24, pos := "lines.go:133", after := #[], guard := none }) (v := .pointer (some ⟨g, 0, none⟩)) rfl (by kernel_rfl) (by kernel_rfl) (by kernel_rfl) (by kernel_rfl) (fun _ _ _ h => h) (Or.inl ⟨by rfl, ?_⟩) hHeld ?_
      · intro w hSw
        obtain ⟨hg0, hcvW⟩ := hSw
        first
          | rfl
          | (go_simp; done)
      try simp only [Act.put, List.setIfInBounds_toArray, List.set_cons_zero, List.set_cons_succ]
      refine wpAnyT_take (i := 1) (oi := { dst := some 80, op := Op.nilCheck (Operand.tmp 79), type := 0, pos := "lines.go:133", after := #[{ on := 0, ground := Ground.data }], guard := none }) (v := .pointer (some ⟨g, 0, none⟩)) rfl (by kernel_rfl) (by kernel_rfl) (by kernel_rfl) (by kernel_rfl) (fun _ _ _ h => h) (Or.inl ⟨by rfl, ?_⟩) hHeld ?_
      · intro w hSw
        obtain ⟨hg0, hcvW⟩ := hSw
        first
          | rfl
          | (go_simp; done)
      try simp only [Act.put, List.setIfInBounds_toArray, List.set_cons_zero, List.set_cons_succ]
      refine wpAnyT_take (i := 2) (oi := { dst := some 81, op := Op.fieldAddr 64 (Operand.tmp 80) 0, type := 0, pos := "lines.go:133", after := #[{ on := 1, ground := Ground.data }], guard := none }) (v := .pointer (some ⟨g, 0, none⟩)) rfl (by kernel_rfl) (by kernel_rfl) (by kernel_rfl) (by kernel_rfl) (fun _ _ _ h => h) (Or.inl ⟨by rfl, ?_⟩) hHeld ?_
      · intro w hSw
        obtain ⟨hg0, hcvW⟩ := hSw
        first
          | rfl
          | (go_simp; done)
      try simp only [Act.put, List.setIfInBounds_toArray, List.set_cons_zero, List.set_cons_succ]
      refine wpAnyT_take (i := 3) (oi := { dst := some 82, op := Op.load 40 (Operand.tmp 81), type := 40, pos := "lines.go:133", after := #[{ on := 2, ground := Ground.data }], guard := none }) (v := .slice (some ⟨gr, 0, none⟩) n cr2) rfl (by kernel_rfl) (by kernel_rfl) (by kernel_rfl) (by kernel_rfl) (fun _ _ _ h => h) (Or.inl ⟨by rfl, ?_⟩) hHeld ?_
      · intro w hSw
        obtain ⟨hg0, hcvW⟩ := hSw
        first
          | rfl
          | (go_simp; done)
      try simp only [Act.put, List.setIfInBounds_toArray, List.set_cons_zero, List.set_cons_succ]
      refine wpAnyT_take (i := 4) (oi := { dst := some 83, op := Op.call { callee := Callee.builtin Builtin.len, args := #[Operand.tmp 82], argTypes := #[40] }, type := 3, pos := "lines.go:133", after := #[{ on := 3, ground := Ground.data }], guard := none }) (v := .int .i64 (n : Int)) rfl (by kernel_rfl) (by kernel_rfl) (by kernel_rfl) (by kernel_rfl) (fun _ _ _ h => h) (Or.inl ⟨by rfl, ?_⟩) hHeld ?_
      · intro w hSw
        obtain ⟨hg0, hcvW⟩ := hSw
        first
          | rfl
          | (go_simp; done)
      try simp only [Act.put, List.setIfInBounds_toArray, List.set_cons_zero, List.set_cons_succ]
      refine wpAnyT_take (i := 5) (oi := { dst := some 84, op := Op.move (Operand.tmp 10), type := 40, pos := "lines.go:133", after := #[], guard := none }) (v := .slice a1 d (cr2 - F)) rfl (by kernel_rfl) (by kernel_rfl) (by kernel_rfl) (by kernel_rfl) (fun _ _ _ h => h) (Or.inl ⟨by rfl, ?_⟩) hHeld ?_
      · intro w hSw
        obtain ⟨hg0, hcvW⟩ := hSw
        first
          | rfl
          | (go_simp; done)
      try simp only [Act.put, List.setIfInBounds_toArray, List.set_cons_zero, List.set_cons_succ]
      refine wpAnyT_take (i := 6) (oi := { dst := some 85, op := Op.call { callee := Callee.builtin Builtin.len, args := #[Operand.tmp 84], argTypes := #[40] }, type := 3, pos := "lines.go:133", after := #[{ on := 5, ground := Ground.data }], guard := none }) (v := .int .i64 (d : Int)) rfl (by kernel_rfl) (by kernel_rfl) (by kernel_rfl) (by kernel_rfl) (fun _ _ _ h => h) (Or.inl ⟨by rfl, ?_⟩) hHeld ?_
      · intro w hSw
        obtain ⟨hg0, hcvW⟩ := hSw
        first
          | rfl
          | (go_simp; done)
      try simp only [Act.put, List.setIfInBounds_toArray, List.set_cons_zero, List.set_cons_succ]
      refine wpAnyT_take (i := 7) (oi := { dst := some 86, op := Op.binOp BinOp.sub 3 (Operand.tmp 83) (Operand.tmp 85) 3, type := 3, pos := "lines.go:133", after := #[{ on := 4, ground := Ground.data }, { on := 6, ground := Ground.data }], guard := none }) (v := .int .i64 ((n : Int) - (d : Int))) rfl (by kernel_rfl) (by kernel_rfl) (by kernel_rfl) (by kernel_rfl) (fun _ _ _ h => h) (Or.inl ⟨by rfl, ?_⟩) hHeld ?_
      · intro w hSw
        obtain ⟨hg0, hcvW⟩ := hSw
        first
          | (go_simp; done)
          | (go_simp; rw [IntKind.wrap_i64] <;> omega)
      try simp only [Act.put, List.setIfInBounds_toArray, List.set_cons_zero, List.set_cons_succ]
      refine wpAnyT_take (i := 8) (oi := { dst := some 87, op := Op.move (Operand.tmp 11), type := 3, pos := "lines.go:133", after := #[], guard := none }) (v := .int .i64 (p : Int)) rfl (by kernel_rfl) (by kernel_rfl) (by kernel_rfl) (by kernel_rfl) (fun _ _ _ h => h) (Or.inl ⟨by rfl, ?_⟩) hHeld ?_
      · intro w hSw
        obtain ⟨hg0, hcvW⟩ := hSw
        first
          | rfl
          | (go_simp; done)
      try simp only [Act.put, List.setIfInBounds_toArray, List.set_cons_zero, List.set_cons_succ]
      refine wpAnyT_take (i := 9) (oi := { dst := some 88, op := Op.move (Operand.tmp 10), type := 40, pos := "lines.go:133", after := #[], guard := none }) (v := .slice a1 d (cr2 - F)) rfl (by kernel_rfl) (by kernel_rfl) (by kernel_rfl) (by kernel_rfl) (fun _ _ _ h => h) (Or.inl ⟨by rfl, ?_⟩) hHeld ?_
      · intro w hSw
        obtain ⟨hg0, hcvW⟩ := hSw
        first
          | rfl
          | (go_simp; done)
      try simp only [Act.put, List.setIfInBounds_toArray, List.set_cons_zero, List.set_cons_succ]
      refine wpAnyT_take (i := 10) (oi := { dst := some 89, op := Op.convert 40 9 (Operand.tmp 88), type := 9, pos := "lines.go:133", after := #[{ on := 9, ground := Ground.data }], guard := none }) (v := .string S) rfl (by kernel_rfl) (by kernel_rfl) (by kernel_rfl) (by kernel_rfl) (fun _ _ _ h => h) (Or.inl ⟨by rfl, ?_⟩) hHeld ?_
      · intro w hSw
        obtain ⟨hg0, hcvW⟩ := hSw
        first
          | rfl
          | (go_simp; done)
          | (go_simp; rw [hcvW]; done)
          | exact ⟨_, hcvW _⟩
      try simp only [Act.put, List.setIfInBounds_toArray, List.set_cons_zero, List.set_cons_succ]
      refine wpAnyT_one (i := 11) (o := { dst := some 90, op := Op.call { callee := Callee.value (Operand.func 62), args := #[Operand.tmp 86, Operand.tmp 87, Operand.const (Value.int IntKind.i64 0), Operand.tmp 89], argTypes := #[3, 3, 3, 9] }, type := 52, pos := "lines.go:133", after := #[{ on := 7, ground := Ground.data }, { on := 8, ground := Ground.data }, { on := 10, ground := Ground.data }], guard := none }) (by kernel_rfl) rfl (fun K hK => ?_)
      go_simp
      refine Calls.mono (unhide KQ2 _ (unhide BD4)) ?_
      rintro r w5 ⟨o2, oc2, om2, rfl, hom2, he2, b5⟩
      have HE2 := hide he2
      have HE15 := hide ((unhide HE14).call b5)
      have HOM2 := hide hom2
      have BD5 := hide ((unhide BD4).trans (b5.mono (unhide BD4).size))
      have hS5 : w5.cell? ⟨g, 0, none⟩ = some (.slice (some ⟨gr, 0, none⟩) n cr2) ∧ ∀ c, (convert 40 9 (.slice a1 d c)).run Tryd.prog w5 = .ok (.string S) w5 := ⟨kept b5 p4, unhide HCV _ (unhide BD5)⟩
      clear b5 he2 hom2
      go_wp2_with fail
      refine hK.out _ _ (fun _ => hS5) ?_
      clear hK K
      try simp only [Act.put, List.setIfInBounds_toArray, List.set_cons_zero, List.set_cons_succ]
      refine wpAnyT_take (i := 12) (oi := { dst := some 78, op := Op.move (Operand.tmp 90), type := 52, pos := "lines.go:133", after := #[{ on := 11, ground := Ground.data }], guard := none }) (v := .tuple #[.slice o2 om2 oc2, .int .i64 0]) rfl (by kernel_rfl) (by kernel_rfl) (by kernel_rfl) (by kernel_rfl) (fun _ _ _ h => h) (Or.inl ⟨by rfl, ?_⟩) hS5 ?_
      · intro w hSw
        obtain ⟨hg0, hcvW⟩ := hSw
        first
          | rfl
          | (go_simp; done)
      try simp only [Act.put, List.setIfInBounds_toArray, List.set_cons_zero, List.set_cons_succ]
      refine wpAnyT_take (i := 13) (oi := { dst := some 91, op := Op.extract (Operand.tmp 78) 0, type := 51, pos := "lines.go:133", after := #[{ on := 12, ground := Ground.data }], guard := none }) (v := .slice o2 om2 oc2) rfl (by kernel_rfl) (by kernel_rfl) (by kernel_rfl) (by kernel_rfl) (fun _ _ _ h => h) (Or.inl ⟨by rfl, ?_⟩) hS5 ?_
      · intro w hSw
        obtain ⟨hg0, hcvW⟩ := hSw
        first
          | rfl
          | (go_simp; done)
      try simp only [Act.put, List.setIfInBounds_toArray, List.set_cons_zero, List.set_cons_succ]
      refine wpAnyT_take (i := 14) (oi := { dst := some 92, op := Op.extract (Operand.tmp 78) 1, type := 25, pos := "lines.go:133", after := #[{ on := 12, ground := Ground.data }, { on := 15, ground := Ground.gcOnly Departure.lateStores }], guard := none }) (v := .int .i64 0) rfl (by kernel_rfl) (by kernel_rfl) (by kernel_rfl) (by kernel_rfl) (fun _ _ _ h => h) (Or.inl ⟨by rfl, ?_⟩) hS5 ?_
      · intro w hSw
        obtain ⟨hg0, hcvW⟩ := hSw
        first
          | rfl
          | (go_simp; done)
      try simp only [Act.put, List.setIfInBounds_toArray, List.set_cons_zero, List.set_cons_succ]
      refine wpAnyT_take (i := 15) (oi := { dst := some 14, op := Op.assign (Operand.tmp 91), type := 51, pos := "lines.go:133", after := #[{ on := 13, ground := Ground.data }, { on := 11, ground := Ground.chain }, { on := 0, ground := Ground.phase }, { on := 1, ground := Ground.phase }, { on := 2, ground := Ground.phase }, { on := 3, ground := Ground.phase }, { on := 4, ground := Ground.phase }, { on := 5, ground := Ground.phase }, { on := 6, ground := Ground.phase }, { on := 7, ground := Ground.phase }, { on := 8, ground := Ground.phase }, { on := 9, ground := Ground.phase }, { on := 10, ground := Ground.phase }, { on := 11, ground := Ground.phase }, { on := 12, ground := Ground.phase }, { on := 13, ground := Ground.phase }, { on := 14, ground := Ground.textOnly Departure.lateStores }], guard := none }) (v := .slice o2 om2 oc2) rfl (by kernel_rfl) (by kernel_rfl) (by kernel_rfl) (by kernel_rfl) (fun _ _ _ h => h) (Or.inl ⟨by rfl, ?_⟩) hS5 ?_
      · intro w hSw
        obtain ⟨hg0, hcvW⟩ := hSw
        first
          | rfl
          | (go_simp; done)
      try simp only [Act.put, List.setIfInBounds_toArray, List.set_cons_zero, List.set_cons_succ]
      refine wpAnyT_pure (i := 16) (oi := { dst := some 15, op := Op.assign (Operand.tmp 92), type := 25, pos := "lines.go:133", after := #[{ on := 14, ground := Ground.data }, { on := 15, ground := Ground.chain }, { on := 0, ground := Ground.phase }, { on := 1, ground := Ground.phase }, { on := 2, ground := Ground.phase }, { on := 3, ground := Ground.phase }, { on := 4, ground := Ground.phase }, { on := 5, ground := Ground.phase }, { on := 6, ground := Ground.phase }, { on := 7, ground := Ground.phase }, { on := 8, ground := Ground.phase }, { on := 9, ground := Ground.phase }, { on := 10, ground := Ground.phase }, { on := 11, ground := Ground.phase }, { on := 12, ground := Ground.phase }, { on := 13, ground := Ground.phase }, { on := 14, ground := Ground.phase }, { on := 15, ground := Ground.phase }], guard := none }) (v := .int .i64 0) rfl (by kernel_rfl) (by kernel_rfl) (by kernel_rfl) rfl (fun _ _ _ h => h) (Or.inl ⟨by rfl, ?_⟩) ?_
      · intro w hSw
        first
          | rfl
          | (go_simp; done)
      try simp only [Act.put, List.setIfInBounds_toArray, List.set_cons_zero, List.set_cons_succ]
      refine wpAnyT_done (by kernel_rfl) ?_ _
      have KC := hide (compose_at (unhide HU _ (unhide BD5)) (unhide HE15) (unhide HE2) (unhide HOM1) (unhide HOM2) (by have h8 := (unhide HO12).1.2.2.2; have h9 := (unhide HO12).2.2.2.2; have h7 := unhide HOM1; have h6 := unhide HOM2; omega) (Below.refl _ _))
      go_wp2_with fail
      refine Calls.mono (unhide KC) ?_
      rintro r w6 ⟨⟨⟨h6, _⟩ | ⟨_, v6, e6, rfl, ho6, nf6, at6, _⟩, _⟩, b6⟩
      · exfalso
        rw [ed_comB (unhide HO12).1.2.1 (by have h9 := (unhide HO12).2.2.1; rw [← unhide HDD]; rw [← unhide HDD] at h9; exact h9)] at h6
        cases h6
      · have BD6 := hide ((unhide BD5).trans (b6.mono (unhide BD5).size))
        have HO6 := hide (OwnP.base ho6 (unhide BD5).size)
        have HNF := hide (And.intro nf6 at6)
        obtain ⟨a6, c6, rfl, _, _, _⟩ := OwnP.slice ho6
        clear ho6 b6 nf6 at6
        go_wp2_with fail
        go_ret2
        refine ⟨.inr ⟨unhide HM, _, _, rfl, unhide HO6, (unhide HNF).1, ?_⟩, unhide BD6⟩
        have h9 := (unhide HNF).2
        rw [(unhide HO12).1.2.2.1, (unhide HO12).2.2.2.1] at h9
        simp only [Int.toNat_natCast]
        rw [(unhide HFEP).1, (unhide HFEP).2.1, (unhide HFEP).2.2]
        unfold mvA
        rw [unhide HN, unhide HDD]
        exact h9
end Go.Proofs.YtdnbhomjfgpcfaaDoor
