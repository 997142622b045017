/- Invert. -/
import Derived.Test.YtihiengejpjbkaaDoorSam
namespace Go.Proofs.YtihiengejpjbkaaDoor
set_option linter.unusedVariables false
set_option linter.unusedSimpArgs false
open Go.ChangeShapes Go.WideShapes Go.ChangeAt Go.RowKit Go.Joins Go.Deep

theorem inv_map (cs : List (List UInt8)) (x : List At) (s : List (List UInt8)) : At.inv (cs.map .p ++ x) s = List.replicate cs.length .d ++ At.inv x s := by
  induction cs with
  | nil => rfl
  | cons c cs ih => simp only [List.map_cons, List.cons_append, At.inv, List.length_cons, List.replicate_succ]; rw [ih]
theorem inv_rep_k (n : Nat) (x : List At) : ∀ s : List (List UInt8), n ≤ s.length → At.inv (List.replicate n .k ++ x) s = List.replicate n .k ++ At.inv x (s.drop n) := by
  induction n with
  | zero => intro s _; simp
  | succ n ih =>
    intro s h
    cases s with
    | nil => simp at h
    | cons c s => simp only [List.replicate_succ, List.cons_append, At.inv, List.drop_succ_cons]; rw [ih s (by simpa using h)]
theorem inv_rep_d (n : Nat) (x : List At) : ∀ s : List (List UInt8), n ≤ s.length → At.inv (List.replicate n .d ++ x) s = (s.take n).map .p ++ At.inv x (s.drop n) := by
  induction n with
  | zero => intro s _; simp
  | succ n ih =>
    intro s h
    cases s with
    | nil => simp at h
    | cons c s => simp only [List.replicate_succ, List.cons_append, At.inv, List.take_succ_cons, List.map_cons, List.drop_succ_cons]; rw [ih s (by simpa using h)]
theorem inv_len : ∀ (x : List At) (s : List (List UInt8)), (At.inv x s).length ≤ x.length
  | [], s => by simp [At.inv]
  | .p c :: x, s => by have := inv_len x s; simp only [At.inv, List.length_cons]; omega
  | .k :: x, [] => by have := inv_len x []; simp only [At.inv, List.length_cons]; omega
  | .k :: x, c :: s => by have := inv_len x s; simp only [At.inv, List.length_cons]; omega
  | .d :: x, [] => by have := inv_len x []; simp only [At.inv, List.length_cons]; omega
  | .d :: x, c :: s => by have := inv_len x s; simp only [At.inv, List.length_cons]; omega
structure II (A : List At) (c0 : List (List UInt8)) (l : List Pt) (s : ByteArray) (L : List Pt) (k : Nat) : Prop where
  tx : ∃ cs, Tx s cs ∧ At.inv A c0 = fitA L ++ At.inv (atomsL l) cs ∧ cs.length = At.fromN (atomsL l)
  len : L.length ≤ k
  txt : sumT L ≤ 4 * (fitA L).length
theorem fit_drop {n : Int} (h1 : 1 ≤ n) (h2 : n ≤ 1099511627776) : Fit1 ⟨3, n, ByteArray.empty⟩ := ⟨good_drop (by omega), h2⟩
theorem II.put {A : List At} {c0 : List (List UInt8)} {p : Pt} {l : List Pt} {s : ByteArray} {L : List Pt} {k : Nat} (h : II A c0 (p :: l) s L k) (hg : Fit1 p) (hk : p.kind = 2) : II A c0 l s (L ++ [⟨3, p.n, ByteArray.empty⟩]) (k + 1) := by
  obtain ⟨cs, h1, h2, h3⟩ := h.tx
  rcases hg.1.cases with ⟨k, _⟩ | ⟨k, _⟩ | ⟨_, ds, x3, x4, e⟩
  · omega
  · omega
  · have hf := fit_drop hg.1.1 hg.2
    refine ⟨⟨cs, h1, ?_, ?_⟩, by simp; exact h.len, txt_good hf h.txt⟩
    · rw [h2, atomsL, e, inv_map, fitA_good hf, atoms_drop, List.append_assoc]
      congr 3
      omega
    · rw [atomsL, At.from_app, e, from_map] at h3; omega
theorem II.keep {A : List At} {c0 : List (List UInt8)} {p : Pt} {l : List Pt} {s : ByteArray} {L : List Pt} {k : Nat} (h : II A c0 (p :: l) s L k) (hg : Fit1 p) (hk : p.kind = 1) : ∃ cs, Tx s cs ∧ II A c0 l (s.extract (placeOf cs (cutK p.n cs)) s.size) (L ++ [p]) (k + 1) := by
  obtain ⟨cs, h1, h2, h3⟩ := h.tx
  have hn := hg.1.1
  rcases hg.1.cases with ⟨_, _, e⟩ | ⟨k, _⟩ | ⟨k, _⟩
  · rw [atomsL, At.from_app, e, from_rep_k] at h3
    have hc : cutK p.n cs = p.n.toNat := by unfold cutK; omega
    refine ⟨cs, h1, ?_⟩
    rw [hc]
    refine ⟨⟨cs.drop p.n.toNat, h1.back _, ?_, by rw [List.length_drop]; omega⟩, by simp; exact h.len, txt_good hg h.txt⟩
    rw [h2, atomsL, fitA_good hg, e, inv_rep_k _ _ _ (by omega), List.append_assoc]
  · omega
  · omega
theorem II.drop {A : List At} {c0 : List (List UInt8)} {p : Pt} {l : List Pt} {s : ByteArray} {L : List Pt} {k : Nat} (h : II A c0 (p :: l) s L k) (hg : Fit1 p) (hk : p.kind = 3) : ∃ cs, Tx s cs ∧ II A c0 l (s.extract (placeOf cs (cutK p.n cs)) s.size) (L ++ [⟨2, p.n, s.extract 0 (placeOf cs (cutK p.n cs))⟩]) (k + 1) := by
  obtain ⟨cs, h1, h2, h3⟩ := h.tx
  have hn := hg.1.1
  rcases hg.1.cases with ⟨k, _⟩ | ⟨_, _, e⟩ | ⟨k, _⟩
  · omega
  · rw [atomsL, At.from_app, e, from_rep_d] at h3
    have hc : cutK p.n cs = p.n.toNat := by unfold cutK; omega
    refine ⟨cs, h1, ?_⟩
    rw [hc]
    have hft := h1.front p.n.toNat
    have hf : Fit1 ⟨2, p.n, s.extract 0 (placeOf cs p.n.toNat)⟩ := ⟨⟨hn, .inr (.inr ⟨rfl, _, hft, by rw [List.length_take]; show _ = p.n; omega⟩)⟩, hg.2⟩
    refine ⟨⟨cs.drop p.n.toNat, h1.back _, ?_, by rw [List.length_drop]; omega⟩, by simp; exact h.len, txt_good hf h.txt⟩
    rw [h2, atomsL, fitA_good hf, e, inv_rep_d _ _ _ (by omega), atoms_put hft, List.append_assoc]
  · omega
theorem II.size {A : List At} {c0 : List (List UInt8)} {l : List Pt} {s : ByteArray} {L : List Pt} {k : Nat} (h : II A c0 l s L k) (hf : At.fromN (atomsL l) ≤ 1099511627776) : s.size ≤ 4398046511104 := by
  obtain ⟨cs, h1, h2, h3⟩ := h.tx
  have := h1.cps.most
  rw [← h1.size] at this
  omega
theorem II.ends {A : List At} {c0 : List (List UInt8)} {s : ByteArray} {L : List Pt} {k : Nat} (h : II A c0 [] s L k) : fitA L = At.inv A c0 := by
  obtain ⟨cs, h1, h2, h3⟩ := h.tx
  rw [h2]
  simp [atomsL, At.inv]
/-- what Invert answers -/
def IvtR (w w' : World) (l : List Pt) (s : ByteArray) (r : Ending) : Prop := isOfB l s = false ∧ r = .returned (.tuple #[.slice none 0 0, .int .i64 30]) ∨ isOfB l s = true ∧ ∃ v c cs, Tx s cs ∧ r = .returned (.tuple #[v, .int .i64 0]) ∧ OwnP w' w.heap.size v c ∧ NfG 0 c ∧ atomsL c = At.can (At.inv (atomsL l) cs) ∧ c.length ≤ 2 * l.length + 3
theorem own_app {wr w' : World} {B : Nat} {v v' : Value} {L : List Pt} {p : Pt} (hv : w'.ownsRow B 38 3 v' (L.length + 1) (ptc L ++ pcs p)) : OwnP w' B v' (L ++ [p]) := by
  unfold OwnP; rw [List.length_append, List.length_singleton, ptc_snoc]; exact hv
set_option maxRecDepth 100000 in
set_option maxHeartbeats 4000000 in
theorem invert_any (a : Option Addr) (l : List Pt) (c : Nat) (s : ByteArray) (w : World) (hT : UT w) (hp : PtsAt w a l) (hc : l.length ≤ maxLen) (hs : ∀ p ∈ l, p.text.size ≤ 281474976710656) (hs2 : s.size ≤ 281474976710656) (hl : l.length ≤ 1099511627776) :
    Calls Tryd.prog 31 #[.slice a l.length c, .string s] w fun r w' => IvtR w w' l s r ∧ Below w.heap.size w w' := by
  have HIS := hide (isOf_any a l c s w hT hp hc hs hs2)
  have HT := hide hT
  have HP := hide hp
  cases hio : isOfB l s with
  | false =>
    rw [hio] at HIS
    have HO := hide hio
    obtain ⟨n, hn⟩ : ∃ n, l.length = n := ⟨_, rfl⟩
    rw [hn] at HIS ⊢
    clear hT hp hc hs hs2 hio hn
    go_enter Tryd.func31, Tryd.ntmps31
    go_wp2_with fail
    refine Calls.mono (unhide HIS) ?_
    rintro r w1 ⟨rfl, hb1⟩
    have HB1 := hide hb1
    clear hb1 HIS
    go_wp2_with fail
    go_ret2
    exact ⟨.inl ⟨unhide HO, rfl⟩, unhide HB1⟩
  | true =>
    rw [hio] at HIS
    have HIO := hide hio
    obtain ⟨c0, t0, htx, hed⟩ := isOf_ed hio
    have HTX := hide htx
    have HED := hide hed
    have HGD := hide (ed_fit hed)
    have HI0 : Hid (II (atomsL l) c0 (l.drop 0) s [] 0) := hide ⟨⟨c0, htx, by simp [fitA, atomsL], by simpa using hed.2.1.symm⟩, by simp, by simp [sumT]⟩
    obtain ⟨n, hn⟩ : ∃ n, l.length = n := ⟨_, rfl⟩
    rw [hn] at HIS hc hl ⊢
    have HN := hide hn
    have nI : (n : Int) ≤ 9223372036854775807 := by unfold maxLen at hc; omega
    clear hT hp hs hs2 hio hn htx hed
    go_enter Tryd.func31, Tryd.ntmps31
    go_wp2_with fail
    refine Calls.mono (unhide HIS) ?_
    rintro r w1 ⟨rfl, hb1⟩
    have HB1 := hide hb1
    clear hb1 HIS
    go_wp2_with fail
    go_loopw [1, 6, 17] (fun sv lv i wr => ∃ (k : Nat) (sk : ByteArray) (L : List Pt), k ≤ n ∧ i = .int .i64 (k : Int) ∧ sv = .string sk ∧ Hid (OwnP wr w1.heap.size lv L) ∧ Hid (Below w1.heap.size w1 wr) ∧ Hid (II (atomsL l) c0 (l.drop k) sk L k)) (fun _ _ i _ => ((n : Int) - intOf i).toNat)
    case atStart => exact ⟨0, s, [], by omega, by simp, rfl, hide (OwnP.nil _ _), hide (Below.refl _ _), HI0⟩
    case round =>
      obtain ⟨k, sk, L, hk, rfl, rfl, HO, HB, HI⟩ := hrel
      have hLn : L.length < 4398046511104 := by have := (unhide HI).len; omega
      by_cases hlt : k < n
      · have kI : (k : Int) < (n : Int) := by omega
        obtain ⟨p, hpk⟩ : ∃ p, l[k]? = some p := ⟨_, List.getElem?_eq_getElem (by have := unhide HN; omega)⟩
        have HBW : Hid (Below w.heap.size w wr) := hide ((unhide HB1).trans ((unhide HB).mono (unhide HB1).size))
        obtain ⟨b, off, rfl, e0, e1, e2⟩ := (unhide HP).at_ (unhide HBW) hpk
        have hdr : l.drop k = p :: l.drop (k + 1) := by
          rw [List.drop_eq_getElem_cons (by have := unhide HN; omega)]
          congr 1
          exact (List.getElem?_eq_some_iff.1 hpk).2
        rw [hdr] at HI
        have HG := hide (unhide HGD p (List.mem_of_getElem? hpk))
        have HSK : Hid (sk.size ≤ 4398046511104) := hide ((unhide HI).size (by rw [← hdr]; have h1 := from_drop l k; have h2 := unhide HED; have := h2.2.1; have := h2.2.2.2.1; omega))
        have hbA : Below wr.heap.size wr (wr.alloc (.cells #[.int .i64 p.kind, .int .i64 p.n, .string p.text] 38)) := (Below.refl _ _).alloc (Nat.le_refl _) _
        have HO2 := hide ((unhide HO).call hbA)
        have HNB : Hid (∀ q, u6.ownBlock = some q → q < wr.heap.size) := hide (fun q hq => ((unhide HO).lt q hq).2)
        have HBW2 := hide ((unhide HBW).trans (hbA.mono (unhide HBW).size))
        have HBA := hide ((unhide HB).trans (hbA.mono (unhide HB).size))
        have HSZ0 := hide (unhide HBA).size
        have HBB := hide (unhide HB).size
        have hrw := RowAt.new wr 38 [.int .i64 p.kind, .int .i64 p.n, .string p.text]
        have hkk : p.kind = 1 ∨ p.kind = 2 ∨ p.kind = 3 := by
          rcases (unhide HG).1.cases with ⟨q, _⟩ | ⟨q, _⟩ | ⟨q, _⟩ <;> omega
        clear hpk hbA HB hdr HO
        obtain ⟨w2, hw2⟩ : ∃ z, (wr.alloc (.cells #[.int .i64 p.kind, .int .i64 p.n, .string p.text] 38)) = z := ⟨_, rfl⟩
        obtain ⟨bb, hbb⟩ : ∃ z, wr.heap.size = z := ⟨_, rfl⟩
        have HW2 := hide hw2
        have HBBE := hide hbb
        rw [hw2] at HO2 HBW2 HBA HSZ0 hrw
        rw [hbb] at hrw HNB HBB
        have HR2 := hide hrw
        have r0 : w2.cell? ⟨bb, 0, none⟩ = some (.int .i64 p.kind) := hrw.cell 0
        have r1 : w2.cell? ⟨bb, 1, none⟩ = some (.int .i64 p.n) := hrw.cell 1
        have r2 : w2.cell? ⟨bb, 2, none⟩ = some (.string p.text) := hrw.cell 2
        clear hrw
        rcases hkk with hk1 | hk1 | hk1
        · have hk := hk1
          have hkk1 := hide hk1
          rw [hk1] at e0 r0 HR2
          have hw3 : wr.alloc (.cells #[.int .i64 1, .int .i64 p.n, .string p.text] 38) = w2 := by rw [← unhide HW2, hk1]
          clear hk1 hw2
          obtain ⟨cs, hcs, hai⟩ := (unhide HI).keep (unhide HG) hk
          have HCUT := hide (cut_any sk cs p.n w2 ((unhide HT).call (unhide HBW2)) hcs (by have := unhide HSK; omega) (by have := (unhide HG).1.1; omega) (by have := (unhide HG).2; omega))
          have HI2 := hide hai
          obtain ⟨fs, hfs⟩ : ∃ z, sk.extract 0 (placeOf cs (cutK p.n cs)) = z := ⟨_, rfl⟩
          obtain ⟨rs, hrs⟩ : ∃ z, sk.extract (placeOf cs (cutK p.n cs)) sk.size = z := ⟨_, rfl⟩
          rw [hfs] at HCUT
          rw [hrs] at HCUT HI2
          clear hcs hai hk hfs hrs
          go_wp2_with fail
          refine Calls.mono (unhide HCUT) ?_
          rintro r w3 ⟨rfl, hb3⟩
          have HO3 := hide ((unhide HO2).call hb3)
          have HR3 := hide ((unhide HR2).below hb3 (unhide HR2).lt)
          have HBC := hide ((unhide HBA).trans (hb3.mono (unhide HSZ0)))
          have HSZ := hide (Nat.le_trans (unhide HSZ0) hb3.size)
          clear hb3 HO2 HCUT r0 r1 r2 HR2
          have r0 : w3.cell? ⟨bb, 0, none⟩ = some (.int .i64 1) := (unhide HR3).cell 0
          have r1 : w3.cell? ⟨bb, 1, none⟩ = some (.int .i64 p.n) := (unhide HR3).cell 1
          have r2 : w3.cell? ⟨bb, 2, none⟩ = some (.string p.text) := (unhide HR3).cell 2
          obtain ⟨pp, hpp⟩ : ∃ z : Pt, p = z := ⟨_, rfl⟩
          have hp1 : pp.kind = 1 := by rw [← hpp]; exact unhide hkk1
          have hp2 : pp = ⟨1, pp.n, pp.text⟩ := by obtain ⟨q1, q2, q3⟩ := pp; simp only at hp1; rw [hp1]
          rw [hpp] at HI2 r1 r2 HR3 ⊢
          rw [hp2] at HI2
          obtain ⟨pe, hpe⟩ : ∃ z : Pt, (⟨1, pp.n, pp.text⟩ : Pt) = z := ⟨_, rfl⟩
          have hk1e : (1 : Int) = pe.kind := by rw [← hpe]
          have hne3 : (pe.kind == 3) = false := by rw [← hk1e]; rfl
          have hk2e : pp.n = pe.n := by rw [← hpe]
          have hk3e : pp.text = pe.text := by rw [← hpe]
          rw [hpe] at HI2
          rw [hk1e] at r0
          rw [hk2e] at r1
          rw [hk3e] at r2
          clear hp1 hp2 hpe hk1e hk2e hk3e hpp
          go_wp2_with (refine wpList_append_part rfl _ _ rfl w1.heap.size u6 L.length (ptc L) pe w3.heap.size 1 rfl ((unhide HO3).call ((Below.refl _ _).alloc (Nat.le_refl _) _)) hLn (Nat.le_trans (unhide HSZ) (by simp)) rfl (fun j u hu => ((RowAt.new w3 38 (pcs pe)).cell j).trans hu) (fun gg cap w9 hv9 ho9 hk9 => ?_); have HO9 := hide (own_app (wr := w3) (v := u6) hv9); have HB9 := hide (((unhide HBC).alloc (unhide HSZ) (.cells #[.int .i64 pe.kind, .int .i64 pe.n, .string pe.text] 38)).trans (ho9.below (Nat.le_trans (unhide HSZ) (by simp)) (fun q hq => ((unhide HO3).lt q hq).1))); clear hv9 ho9 hk9 HO3)
          exact ⟨⟨k + 1, rs, L ++ [pe], by omega, by simp, rfl, HO9, HB9, HI2⟩, by simp [intOf]; omega⟩
        · have hk := hk1
          have hkk1 := hide hk1
          rw [hk1] at e0 r0 HR2
          have hw3 : wr.alloc (.cells #[.int .i64 2, .int .i64 p.n, .string p.text] 38) = w2 := by rw [← unhide HW2, hk1]
          clear hk1 hw2
          have HI2 := hide ((unhide HI).put (unhide HG) hk)
          clear hk
          go_wp2_with fail
          refine Calls.mono (drop_any p.n _) ?_
          rintro r w3 ⟨rfl, hb3⟩
          have HO3 := hide ((unhide HO2).call hb3)
          have HBC := hide ((unhide HBA).trans (hb3.mono (unhide HSZ0)))
          have HSZ := hide (Nat.le_trans (unhide HSZ0) hb3.size)
          clear hb3 HO2 r0 r1 r2 HR2
          obtain ⟨pp, hpp⟩ : ∃ z : Pt, (⟨3, p.n, ByteArray.empty⟩ : Pt) = z := ⟨_, rfl⟩
          rw [hpp] at HI2 ⊢
          clear hpp
          unfold pv
          go_wp2_with (refine wpList_append_part rfl _ _ rfl w1.heap.size u6 L.length (ptc L) pp w3.heap.size 1 rfl ((unhide HO3).call ((Below.refl _ _).alloc (Nat.le_refl _) _)) hLn (Nat.le_trans (unhide HSZ) (by simp)) rfl (fun j u hu => ((RowAt.new w3 38 (pcs pp)).cell j).trans hu) (fun gg cap w9 hv9 ho9 hk9 => ?_); have HO9 := hide (own_app (wr := w3) (v := u6) hv9); have HB9 := hide (((unhide HBC).alloc (unhide HSZ) (.cells #[.int .i64 pp.kind, .int .i64 pp.n, .string pp.text] 38)).trans (ho9.below (Nat.le_trans (unhide HSZ) (by simp)) (fun q hq => ((unhide HO3).lt q hq).1))); clear hv9 ho9 hk9 HO3)
          exact ⟨⟨k + 1, sk, L ++ [pp], by omega, by simp, rfl, HO9, HB9, HI2⟩, by simp [intOf]; omega⟩
        · have hk := hk1
          have hkk1 := hide hk1
          rw [hk1] at e0 r0 HR2
          have hw3 : wr.alloc (.cells #[.int .i64 3, .int .i64 p.n, .string p.text] 38) = w2 := by rw [← unhide HW2, hk1]
          clear hk1 hw2
          obtain ⟨cs, hcs, hai⟩ := (unhide HI).drop (unhide HG) hk
          have HCUT := hide (cut_any sk cs p.n w2 ((unhide HT).call (unhide HBW2)) hcs (by have := unhide HSK; omega) (by have := (unhide HG).1.1; omega) (by have := (unhide HG).2; omega))
          have HI2 := hide hai
          obtain ⟨fs, hfs⟩ : ∃ z, sk.extract 0 (placeOf cs (cutK p.n cs)) = z := ⟨_, rfl⟩
          obtain ⟨rs, hrs⟩ : ∃ z, sk.extract (placeOf cs (cutK p.n cs)) sk.size = z := ⟨_, rfl⟩
          rw [hfs] at HCUT
          rw [hrs] at HCUT HI2
          rw [hfs] at HI2
          clear hcs hai hk hfs hrs
          go_wp2_with fail
          refine Calls.mono (unhide HCUT) ?_
          rintro r w3 ⟨rfl, hb3⟩
          have HO3 := hide ((unhide HO2).call hb3)
          have HR3 := hide ((unhide HR2).below hb3 (unhide HR2).lt)
          have HBC := hide ((unhide HBA).trans (hb3.mono (unhide HSZ0)))
          have HSZ := hide (Nat.le_trans (unhide HSZ0) hb3.size)
          clear hb3 HO2 HCUT r0 r1 r2 HR2
          have r0 : w3.cell? ⟨bb, 0, none⟩ = some (.int .i64 3) := (unhide HR3).cell 0
          have r1 : w3.cell? ⟨bb, 1, none⟩ = some (.int .i64 p.n) := (unhide HR3).cell 1
          have r2 : w3.cell? ⟨bb, 2, none⟩ = some (.string p.text) := (unhide HR3).cell 2
          go_wp2_with fail
          refine Calls.mono (put_any p.n fs _) ?_
          rintro r w4 ⟨rfl, hb4⟩
          have HO4 := hide ((unhide HO3).call hb4)
          have HR4 := hide ((unhide HR3).below hb4 (unhide HR3).lt)
          have HBC4 := hide ((unhide HBC).trans (hb4.mono (unhide HSZ)))
          have HSZ4 := hide (Nat.le_trans (unhide HSZ) hb4.size)
          clear hb4 HO3 HR3 r0 r1 r2 HBC HSZ
          obtain ⟨pp, hpp⟩ : ∃ z : Pt, (⟨2, p.n, fs⟩ : Pt) = z := ⟨_, rfl⟩
          rw [hpp] at HI2 ⊢
          clear hpp
          unfold pv
          have r0 : w4.cell? ⟨bb, 0, none⟩ = some (.int .i64 3) := (unhide HR4).cell 0
          have r1 : w4.cell? ⟨bb, 1, none⟩ = some (.int .i64 p.n) := (unhide HR4).cell 1
          have r2 : w4.cell? ⟨bb, 2, none⟩ = some (.string p.text) := (unhide HR4).cell 2
          have z0 : w4.frozen? ⟨bb, 0, none⟩ = false := (unhide HR4).frozen 0
          have z1 : w4.frozen? ⟨bb, 1, none⟩ = false := (unhide HR4).frozen 1
          have z2 : w4.frozen? ⟨bb, 2, none⟩ = false := (unhide HR4).frozen 2
          have oo : Only (· = bb) w4 (((w4.setCell ⟨bb, 0, none⟩ (.int .i64 pp.kind)).setCell ⟨bb, 1, none⟩ (.int .i64 pp.n)).setCell ⟨bb, 2, none⟩ (.string pp.text)) := (((Only.refl (· = bb) w4).set bb 0 _ rfl).set bb 1 _ rfl).set bb 2 _ rfl
          have HO5 := hide (show OwnP (((w4.setCell ⟨bb, 0, none⟩ (.int .i64 pp.kind)).setCell ⟨bb, 1, none⟩ (.int .i64 pp.n)).setCell ⟨bb, 2, none⟩ (.string pp.text)) w1.heap.size u6 L from own_only (unhide HO4) oo (fun k hk e => by have := unhide HNB k hk; omega))
          have HR5 := hide (((unhide HR4).set 0 (.int .i64 pp.kind)).set 1 (.int .i64 pp.n) |>.set 2 (.string pp.text))
          have HBC := hide ((unhide HBC4).trans (oo.below (unhide HSZ4) (fun k hk => by have := unhide HBB; omega)))
          have HSZ := hide (Nat.le_trans (unhide HSZ4) oo.size)
          clear oo HO4 HR4 HBC4 HSZ4
          obtain ⟨w5, hw5⟩ : ∃ z, (((w4.setCell ⟨bb, 0, none⟩ (.int .i64 pp.kind)).setCell ⟨bb, 1, none⟩ (.int .i64 pp.n)).setCell ⟨bb, 2, none⟩ (.string pp.text)) = z := ⟨_, rfl⟩
          rw [hw5] at HO5 HR5 HBC HSZ
          have f0 : w5.cell? ⟨bb, 0, none⟩ = some (.int .i64 pp.kind) := (unhide HR5).cell 0
          have f1 : w5.cell? ⟨bb, 1, none⟩ = some (.int .i64 pp.n) := (unhide HR5).cell 1
          have f2 : w5.cell? ⟨bb, 2, none⟩ = some (.string pp.text) := (unhide HR5).cell 2
          clear HR5
          go_wp2_with (refine wpList_append_part rfl _ _ rfl w1.heap.size u6 L.length (ptc L) pp w5.heap.size 1 rfl ((unhide HO5).call ((Below.refl _ _).alloc (Nat.le_refl _) _)) hLn (Nat.le_trans (unhide HSZ) (by simp)) rfl (fun j u hu => ((RowAt.new w5 38 (pcs pp)).cell j).trans hu) (fun gg cap w9 hv9 ho9 hk9 => ?_); have HO9 := hide (own_app (wr := w5) (v := u6) hv9); have HB9 := hide (((unhide HBC).alloc (unhide HSZ) (.cells #[.int .i64 pp.kind, .int .i64 pp.n, .string pp.text] 38)).trans (ho9.below (Nat.le_trans (unhide HSZ) (by simp)) (fun q hq => ((unhide HO5).lt q hq).1))); clear hv9 ho9 hk9 HO5)
          exact ⟨⟨k + 1, rs, L ++ [pp], by omega, by simp, rfl, HO9, HB9, HI2⟩, by simp [intOf]; omega⟩
      · obtain rfl : n = k := by omega
        have kI : ¬ (n : Int) < (n : Int) := by omega
        have hdn : l.drop n = [] := List.drop_of_length_le (by rw [unhide HN]; exact Nat.le_refl _)
        rw [hdn] at HI
        have hE := (unhide HI).ends
        have hln := (unhide HI).len
        have htt := (unhide HI).txt
        have hil := inv_len (atomsL l) c0
        have hal := ed_len (unhide HED)
        obtain ⟨ao, co, hvo, hpo, hbo, hlo, hmo⟩ := (unhide HO).open
        have HNO := hide (norm_any ao L co wr ((unhide HT).call ((unhide HB1).trans ((unhide HB).mono (unhide HB1).size))) hpo (by omega) (by rw [hE] at htt; omega))
        have HNG := hide (norm_good L (by show ((fitA L).length : Int) ≤ _; rw [hE]; omega))
        have HE := hide hE
        have HLL : Hid ((normL L).length ≤ 2 * n + 3) := hide (by have := normL_len L; omega)
        subst hvo
        clear hpo hbo hlo hmo hE hln htt hil hal hdn HI HO
        obtain ⟨ln, hln⟩ : ∃ z, L.length = z := ⟨_, rfl⟩
        rw [hln] at HNO ⊢
        clear hln hLn
        go_wp2_with fail
        refine Calls.mono (unhide HNO) ?_
        rintro r w5 ⟨v5, rfl, hv5, hb5⟩
        have HV5 := hide (own_base hv5 (Nat.le_trans (unhide HB1).size (unhide HB).size))
        have HB5 := hide (((unhide HB1).trans ((unhide HB).mono (unhide HB1).size)).trans (hb5.mono (Nat.le_trans (unhide HB1).size (unhide HB).size)))
        clear hv5 hb5 HNO HB
        go_wp2_with fail
        go_ret2
        refine ⟨.inr ⟨unhide HIO, v5, normL L, c0, unhide HTX, rfl, unhide HV5, (unhide HNG).1, ?_, by rw [unhide HN]; exact unhide HLL⟩, unhide HB5⟩
        rw [(unhide HNG).2, ← unhide HE]; rfl
end Go.Proofs.YtihiengejpjbkaaDoor
