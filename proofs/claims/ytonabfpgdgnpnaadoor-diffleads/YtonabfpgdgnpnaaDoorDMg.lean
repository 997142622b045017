/- Merge. -/
import Derived.Test.YtonabfpgdgnpnaaDoorDDf
import Derived.Test.YtonabfpgdgnpnaaDoorSam
namespace Go.Proofs.YtonabfpgdgnpnaaDoor
set_option linter.unusedVariables false
set_option linter.unusedSimpArgs false
open Go.ChangeShapes Go.WideShapes Go.ChangeAt Go.RowKit Go.Joins Go.Deep

theorem nf_few : ∀ {l : List Pt} {a : Int}, NfG a l → l.length ≤ (atomsL l).length
  | [], _, _ => by simp
  | p :: l, a, h => by
    have hg := h.1
    have h1 := hg.len.2
    have h2 := hg.1
    have ih := nf_few h.2.2.2
    rw [atomsL, List.length_append, List.length_cons, h1]
    omega
theorem can_len2 (x : List At) : (At.can x).length = x.length := by
  have h : ∀ (x : List At) (ps : List (List UInt8)) (n : Nat), (At.canG ps n x).length = ps.length + n + x.length := by
    intro x
    induction x with
    | nil => intro ps n; simp [At.canG]
    | cons s x ih =>
      intro ps n
      cases s with
      | k => simp [At.canG, ih]; omega
      | d => simp [At.canG, ih]; omega
      | p c => simp [At.canG, ih]; omega
  unfold At.can
  rw [h]
  simp
theorem lead_ed {l : List Pt} {x y : List CP} (nf : NfG 0 l) (e : atomsL l = At.can (leadA x y)) (hx : x.length ≤ 1024) (hy : y.length ≤ 1024) : IsEd l x.length y.length ∧ l.length ≤ 2048 := by
  have li := lead_is x y
  refine ⟨⟨nf, ?_, ?_, by omega, by omega⟩, ?_⟩
  · rw [e, ← At.fromN_sw (At.can_sw _), li.frm]
  · rw [e, ← At.toN_sw (At.can_sw _), li.to_]
  · have h1 := nf_few nf
    have h2 := lead_len _ x y (Nat.le_refl _)
    rw [e, can_len2] at h1
    omega
theorem own_ed {w : World} {B : Nat} {a : Option Addr} {l : List Pt} {c n m : Nat} (h : OwnP w B (.slice a l.length c) l) (he : IsEd l n m) (hl : l.length ≤ 4398046511104) : Edit w a l c := by
  obtain ⟨a2, c2, e, h2⟩ := h.edit (ed_txt he) hl
  injection e with e1 _ e3
  subst e1 e3
  exact h2
def MTr (x y z : List CP) (W : World) (r : Ending) (w' : World) : Prop := ∃ v1 a5 c2 c5, r = .returned (.tuple #[v1, .slice a5 c2.length c5, .int .i64 0]) ∧ OwnP w' W.heap.size (.slice a5 c2.length c5) c2 ∧ IsEd c2 y.length (At.toN (atomsL c2)) ∧ c2.length ≤ 100000 ∧ atomsL c2 = At.can (At.two (At.can (leadA x y)) (At.can (leadA x z))) ∧ Below W.heap.size W w'
theorem MTr.shape {x y z : List CP} {W w' : World} {r : Ending} (h : MTr x y z W r w') : ∃ v1 a5 c2 c5, r = .returned (.tuple #[v1, .slice a5 c2.length c5, .int .i64 0]) ∧ OwnP w' W.heap.size (.slice a5 c2.length c5) c2 ∧ IsEd c2 y.length (At.toN (atomsL c2)) ∧ c2.length ≤ 100000 ∧ atomsL c2 = At.can (At.two (At.can (leadA x y)) (At.can (leadA x z))) ∧ Below W.heap.size W w' := h
theorem merge_tra {W : World} {B3 B4 : Nat} {a3 a4 : Option Addr} {l3 l4 : List Pt} {c3 c4 : Nat} {x y z : List CP} (hU : UT W) (o3 : OwnP W B3 (.slice a3 l3.length c3) l3) (n3 : NfG 0 l3) (e3 : atomsL l3 = At.can (leadA x y)) (o4 : OwnP W B4 (.slice a4 l4.length c4) l4) (n4 : NfG 0 l4) (e4 : atomsL l4 = At.can (leadA x z)) (hx : x.length ≤ 1024) (hy : y.length ≤ 1024) (hz : z.length ≤ 1024) :
    Calls Tryd.prog 43 #[.slice a3 l3.length c3, .slice a4 l4.length c4] W fun r w' => MTr x y z W r w' := by
  obtain ⟨d3, k3⟩ := lead_ed n3 e3 hx hy
  obtain ⟨d4, k4⟩ := lead_ed n4 e4 hx hz
  refine Calls.mono (transform_at hU (own_ed o3 d3 (by omega)) (own_ed o4 d4 (by omega)) rfl rfl (by omega) (Below.refl _ _)) ?_
  rintro r w' ⟨h, hb⟩
  obtain ⟨c1, c2, g1, g2, f1, f2, m1, m2, s1, s2, s3, h⟩ := tra_ok h d3 d4
  have hp := (At.sizes (atomsL l3) (atomsL l4) (by rw [d3.2.1, d4.2.1]))
  have hto : At.toN (atomsL c1) ≤ 4096 := by
    have q1 := from_to (At.one (atomsL l3) (atomsL l4))
    have q2 := from_to (leadA x y)
    have li := lead_is x y
    rw [hp.1, hp.2.2.2.1, e3, ← At.putsN_sw (At.can_sw _), d4.2.2.1] at q1
    have q4 := li.puts
    rw [f1, ← At.toN_sw (At.can_sw _), e3]
    omega
  rcases h with ⟨h, _⟩ | ⟨_, h2, v1, v2, rfl, _, o2⟩
  · omega
  · obtain ⟨a5, c5, rfl, _, _⟩ := own_sl3 o2
    refine ⟨v1, a5, c2, c5, rfl, o2, ?_, by omega, by rw [f2, e3, e4], hb⟩
    rw [← s3]
    exact h2
def MergeR (b a c : ByteArray) (w : World) (r : Ending) (w' : World) : Prop := (firstE [b, a, c] ≠ 0 ∧ r = .returned (.tuple #[.string ⟨#[]⟩, .int .i64 (firstE [b, a, c])]) ∨ firstE [b, a, c] = 0 ∧ ∃ x y z S, Tx b x ∧ Tx a y ∧ Tx c z ∧ x.length ≤ 1024 ∧ y.length ≤ 1024 ∧ z.length ≤ 1024 ∧ r = .returned (.tuple #[.string S, .int .i64 0]) ∧ Tx S (At.app (At.can (At.two (At.can (leadA x y)) (At.can (leadA x z)))) y)) ∧ Below w.heap.size w w'
set_option maxRecDepth 100000 in
set_option maxHeartbeats 4000000 in
theorem merge_any (a b c : ByteArray) (w : World) (hT : UT w) (hsa : a.size ≤ 1099511627776) (hsb : b.size ≤ 1099511627776) (hsc : c.size ≤ 1099511627776) : Calls Tryd.prog 22 #[.string a, .string b, .string c] w fun r w' => MergeR a b c w r w' := by
  have HU : Hid (∀ W, Below w.heap.size w W → UT W) := hide (fun W h => hT.call h)
  have bP : Below w.heap.size w (w.alloc (.cells #[.string a, .string b, .string c] 9)) := (Below.refl _ _).alloc (Nat.le_refl _) _
  have KR := hide (read_any w.heap.size (.slice (some ⟨w.heap.size, 0, none⟩) 3 3) [a, b, c] (w.alloc (.cells #[.string a, .string b, .string c] 9)) (hT.call bP) (own_row (RowAt.new w 9 [.string a, .string b, .string c]) (Nat.le_refl _) (by show 3 ≤ maxLen; unfold maxLen; omega)) (by simp) (by simp only [List.mem_cons, List.not_mem_nil, or_false]; rintro s (rfl | rfl | rfl) <;> assumption))
  have B1 := hide bP
  obtain ⟨w1, hw1⟩ : ∃ z, w.alloc (.cells #[.string a, .string b, .string c] 9) = z := ⟨_, rfl⟩
  have HW1 := hide hw1
  rw [hw1] at KR B1
  clear hT bP hw1
  go_enter Tryd.func22, Tryd.ntmps22
  go_wp2_with fail
  try rw [unhide HW1]
  clear HW1
  refine Calls.mono (unhide KR) ?_
  rintro r w2 ⟨h2, b2⟩
  have B2 := hide ((unhide B1).trans (b2.mono (unhide B1).size))
  have hBs := (unhide B1).size
  clear b2 KR
  rcases h2 with ⟨hf, rfl⟩ | ⟨hf, v, vs, X, rfl, hrd, htx, hxl⟩
  · obtain ⟨e, he⟩ : ∃ z, firstE [a, b, c] = z := ⟨_, rfl⟩
    have HE := hide he
    have he0 : (e != 0) = true := by rw [← he]; simp [hf]
    have HF := hide hf
    rw [he]
    clear hf he
    go_wp2_with fail
    go_ret2
    exact ⟨.inl ⟨unhide HF, by rw [unhide HE]; rfl⟩, unhide B2⟩
  · obtain ⟨x, y, z, rfl⟩ := three_get hxl
    have hvl := hrd.len
    obtain ⟨u0, u1, u2, rfl⟩ := three_get hvl
    obtain ⟨ht0, hl0⟩ := htx 0 _ _ rfl rfl
    have ho0 := hrd.each 0 _ _ rfl rfl
    obtain ⟨a0, c0, rfl, _, _⟩ := own_sl ho0
    obtain ⟨ht1, hl1⟩ := htx 1 _ _ rfl rfl
    have ho1 := hrd.each 1 _ _ rfl rfl
    obtain ⟨a1, c1, rfl, _, _⟩ := own_sl ho1
    obtain ⟨ht2, hl2⟩ := htx 2 _ _ rfl rfl
    have ho2 := hrd.each 2 _ _ rfl rfl
    obtain ⟨a2, c2, rfl, _, _⟩ := own_sl ho2
    obtain ⟨gl, cl, rfl, hc0, -, hlc, hlm⟩ := own_rd hrd.own (i := 0) rfl
    have hc1 : w2.cell? ⟨gl, 1, none⟩ = some (.slice a1 y.length c1) := row_cell (n := 3) (by exact hrd.own) rfl
    have hc2 : w2.cell? ⟨gl, 2, none⟩ = some (.slice a2 z.length c2) := row_cell (n := 3) (by exact hrd.own) rfl
    have KL := hide (fun W (hb : Below w2.heap.size w2 W) => lead_any (unhide HU W ((unhide B2).trans (hb.mono (unhide B2).size))) (own_call ho0 hb) (own_call ho1 hb) ht0.cps ht1.cps hl0 hl1)
    have KM := hide (fun W (hb : Below w2.heap.size w2 W) => lead_any (unhide HU W ((unhide B2).trans (hb.mono (unhide B2).size))) (own_call ho0 hb) (own_call ho2 hb) ht0.cps ht2.cps hl0 hl2)
    have HT := hide (And.intro hf (And.intro ht0 (And.intro ht1 (And.intro ht2 (And.intro hl0 (And.intro hl1 hl2))))))
    have HS : Hid (∀ W, Below w2.heap.size w2 W → W.cell? ⟨gl, 0, none⟩ = some (.slice a0 x.length c0) ∧ W.cell? ⟨gl, 1, none⟩ = some (.slice a1 y.length c1) ∧ W.cell? ⟨gl, 2, none⟩ = some (.slice a2 z.length c2)) := hide (fun W hW => ⟨kept hW hc0, kept hW hc1, kept hW hc2⟩)
    have k0 : Below w2.heap.size w2 w2.drew := (Below.refl _ _).drew
    obtain ⟨n, hn⟩ : ∃ z, x.length = z := ⟨_, rfl⟩
    obtain ⟨m, hm⟩ : ∃ z, y.length = z := ⟨_, rfl⟩
    obtain ⟨q, hq⟩ : ∃ u, z.length = u := ⟨_, rfl⟩
    rw [hn, hm] at KL
    rw [hn, hq] at KM
    rw [hn, hm, hq] at HS
    rw [show ([x, y, z] : List (List CP)).length = 3 from rfl] at *
    clear hf hrd htx hxl hvl ht0 ht1 ht2 hl0 hl1 hl2 ho0 ho1 ho2 hc0 hc1 hc2 hn hm hq
    go_wp2_with fail
    go_region_held3 (fun W => W.cell? ⟨gl, 0, none⟩ = some (.slice a0 n c0) ∧ W.cell? ⟨gl, 1, none⟩ = some (.slice a1 m c1) ∧ W.cell? ⟨gl, 2, none⟩ = some (.slice a2 q c2))
      (first | exact unhide HS _ k0 | exact unhide HS _ k3 | exact unhide HS _ k2 | exact unhide HS _ k1)
      (first | ((fail_if_success (have := k1)); go_at_call 30; with_reducible refine Calls.mono (unhide KL _ k0) ?_; rintro e w3 h3; obtain ⟨a3, l3, c3, rfl, o3, nf3, at3, b3⟩ := LeadR.shape h3; have k1 : Below w2.heap.size w2 w3 := k0.trans (b3.mono k0.size)) | (go_at_call 30; with_reducible refine Calls.mono (unhide KM _ k1) ?_; rintro e w4 h4; obtain ⟨a4, l4, c4, rfl, o4, nf4, at4, b4⟩ := LeadR.shape h4; have k2 : Below w2.heap.size w2 w4 := k1.trans (b4.mono k1.size)) | (go_at_call 43; with_reducible refine Calls.mono (merge_tra (unhide HU _ ((unhide B2).trans (k2.mono (unhide B2).size))) (OwnP.call o3 b4) nf3 at3 o4 nf4 at4 (unhide HT).2.2.2.2.1 (unhide HT).2.2.2.2.2.1 (unhide HT).2.2.2.2.2.2) ?_; rintro e w5 h5; obtain ⟨v1, a5, l5, c5, rfl, o5, ed5, len5, at5, b5⟩ := MTr.shape h5; have k3 : Below w2.heap.size w2 w5 := k2.trans (b5.mono k2.size)))
    have B5 := hide ((unhide B2).trans (k3.mono (unhide B2).size))
    obtain ⟨ap5, cap5, e5, hp5, hl5, hm5⟩ := o5.slice
    injection e5 with e51 e52 e53
    clear e52
    subst e51 e53
    have KA := hide (apply_ed (c := c5) (unhide HU _ (unhide B5)) hp5 (by omega) (unhide HT).2.2.1 ed5)
    have HA5 := hide at5
    clear k0 k1 k2 k3 b3 b4 b5 o3 o4 o5 nf3 nf4 at3 at4 at5 ed5 hp5 hl5 hm5 len5 HS KL KM
    go_wp2_with fail
    refine Calls.mono (unhide KA) ?_
    rintro r w6 ⟨S, rfl, hS, b6⟩
    have B6 := hide ((unhide B5).trans (b6.mono (unhide B5).size))
    rw [unhide HA5] at hS
    have HSS := hide hS
    clear b6 hS KA
    go_wp2_with fail
    go_ret2
    exact ⟨.inr ⟨(unhide HT).1, x, y, z, S, (unhide HT).2.1, (unhide HT).2.2.1, (unhide HT).2.2.2.1, (unhide HT).2.2.2.2.1, (unhide HT).2.2.2.2.2.1, (unhide HT).2.2.2.2.2.2, rfl, unhide HSS⟩, unhide B6⟩
end Go.Proofs.YtonabfpgdgnpnaaDoor
