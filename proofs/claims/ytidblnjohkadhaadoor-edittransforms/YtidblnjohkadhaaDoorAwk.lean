/- The examples. -/
import Derived.Test.YtidblnjohkadhaaDoorTrn
import Derived.Test.YtidblnjohkadhaaDoorApl
namespace Go.Proofs.YtidblnjohkadhaaDoor
set_option linter.unusedVariables false
set_option linter.unusedSimpArgs false
open Go.ChangeShapes Go.WideShapes Go.ChangeAt Go.RowKit Go.Joins Go.Deep

theorem cp_ascii (b : UInt8) (h : b.toNat < 128) : Cp [b] := by
  have e : Lib.decodeL [b] = (b.toNat, 1) := by
    rw [Lib.decodeL_N]
    unfold Lib.decodeN
    simp [h]
  refine ⟨by simp, ?_, by rw [e]; rfl⟩
  rw [e]
  simp
  omega
theorem cps_ascii : ∀ l : List UInt8, (∀ b ∈ l, b.toNat < 128) → Cps (l.map (fun b => [b]))
  | [], _ => Cps.nil
  | b :: l, h => Cps.cons (cp_ascii b (h b (List.mem_cons_self ..))) (cps_ascii l (fun c hc => h c (List.mem_cons_of_mem _ hc)))
theorem tx_ascii (l : List UInt8) (h : ∀ b ∈ l, b.toNat < 128) : Tx ⟨l.toArray⟩ (l.map (fun b => [b])) := by
  refine ⟨cps_ascii l h, ?_⟩
  clear h
  induction l with
  | nil => rfl
  | cons b l ih => simp at ih ⊢; exact ih
theorem tx_empty : Tx ByteArray.empty [] := ⟨Cps.nil, rfl⟩
theorem Tx.bytes {s : ByteArray} {cs : List (List UInt8)} (h : Tx s cs) : s = ⟨cs.flatten.toArray⟩ := ByteArray.ext (Array.toList_inj.1 (by rw [h.eq]))
theorem repB_true {n at_ k : Int} {s : ByteArray} {cs : List (List UInt8)} (h : Tx s cs) (n0 : 0 ≤ n) (n1 : n ≤ 1099511627776) (a0 : 0 ≤ at_) (a1 : at_ ≤ n) (k0 : 0 ≤ k) (k1 : k ≤ n - at_) (hl : (cs.length : Int) ≤ 1099511627776 - n) : repB n at_ k s = true := by
  unfold repB
  simp only [Bool.and_eq_true, decide_eq_true_eq]
  exact ⟨⟨n0, n1⟩, ⟨a0, a1⟩, ⟨k0, k1⟩, h.valid, by rw [h.count]; exact hl⟩
theorem repB_has {n at_ k : Int} {s : ByteArray} (h : repB n at_ k s = true) : ∃ cs, Tx s cs ∧ 0 ≤ n ∧ n ≤ 1099511627776 ∧ 0 ≤ at_ ∧ at_ ≤ n ∧ 0 ≤ k ∧ k ≤ n - at_ ∧ (cs.length : Int) ≤ 1099511627776 - n := by
  unfold repB at h
  simp only [Bool.and_eq_true, decide_eq_true_eq] at h
  obtain ⟨h1, h2, h3, h4, h5⟩ := h
  obtain ⟨cs, hcs⟩ := tx_of_valid h4
  rw [hcs.count] at h5
  exact ⟨cs, hcs, h1.1, h1.2, h2.1, h2.2, h3.1, h3.2, h5⟩
theorem fit_or {p : Pt} {x : List At} (h1 : 1 ≤ p.n → Fit1 p ∧ atoms p = x) (h0 : p.n < 1 → x = []) : (if fitsB p = true then atoms p else []) = x := by
  by_cases hn : 1 ≤ p.n
  · obtain ⟨h2, h3⟩ := h1 hn
    rw [if_pos (fits_of_good h2.1 h2.2), h3]
  · have : ¬ fitsB p = true := fun e => hn (good_of_fits e).1.1
    rw [if_neg this, h0 (by omega)]
theorem nf_rep (m : Nat) : At.canG [] 0 (List.replicate m .k) = List.replicate m .k := by
  by_cases hz : m = 0
  · rw [hz]; rfl
  · have := canG_rep_k [] 0 m [] hz
    rw [List.append_nil] at this
    rw [this]
    simp [At.canG]
/-- a stretch becomes a text, by single steps -/
theorem rep_ed {n at_ k : Int} {s : ByteArray} {cs : List (List UInt8)} (h : Tx s cs) (n0 : 0 ≤ n) (n1 : n ≤ 1099511627776) (a0 : 0 ≤ at_) (a1 : at_ ≤ n) (k0 : 0 ≤ k) (k1 : k ≤ n - at_) (hl : (cs.length : Int) ≤ 1099511627776 - n) :
    NfG 0 (repL n at_ k s) ∧ atomsL (repL n at_ k s) = List.replicate at_.toNat .k ++ (cs.map .p ++ (List.replicate k.toNat .d ++ List.replicate (n - at_ - k).toNat .k)) ∧ (repL n at_ k s).length ≤ 11 := by
  have hA : fitA [⟨1, at_, ByteArray.empty⟩, ⟨2, (Lib.runeCount s : Int), s⟩, ⟨3, k, ByteArray.empty⟩, ⟨1, n - at_ - k, ByteArray.empty⟩] = List.replicate at_.toNat .k ++ (cs.map .p ++ (List.replicate k.toNat .d ++ List.replicate (n - at_ - k).toNat .k)) := by
    have e : ([⟨1, at_, ByteArray.empty⟩, ⟨2, (Lib.runeCount s : Int), s⟩, ⟨3, k, ByteArray.empty⟩, ⟨1, n - at_ - k, ByteArray.empty⟩] : List Pt) = ((([] ++ [⟨1, at_, ByteArray.empty⟩]) ++ [⟨2, (Lib.runeCount s : Int), s⟩]) ++ [⟨3, k, ByteArray.empty⟩]) ++ [⟨1, n - at_ - k, ByteArray.empty⟩] := rfl
    rw [e, fitA_snoc, fitA_snoc, fitA_snoc, fitA_snoc]
    rw [fit_or (p := ⟨1, at_, ByteArray.empty⟩) (x := List.replicate at_.toNat .k) (fun q => ⟨fit_keep q (by omega), atoms_keep _ _⟩) (fun q => by have : at_ < 1 := q; rw [show at_.toNat = 0 by omega]; rfl)]
    rw [fit_or (p := ⟨2, (Lib.runeCount s : Int), s⟩) (x := cs.map .p) (fun q => ⟨⟨⟨q, .inr (.inr ⟨rfl, cs, h, by rw [h.count]⟩)⟩, by show (Lib.runeCount s : Int) ≤ _; rw [h.count]; omega⟩, atoms_put h⟩) (fun q => by have q' : (Lib.runeCount s : Int) < 1 := q; rw [h.count] at q'; rw [List.length_eq_zero_iff.1 (show cs.length = 0 by omega)]; rfl)]
    rw [fit_or (p := ⟨3, k, ByteArray.empty⟩) (x := List.replicate k.toNat .d) (fun q => ⟨⟨good_drop (by have : 1 ≤ k := q; omega), by show k ≤ _; omega⟩, atoms_drop _ _⟩) (fun q => by have : k < 1 := q; rw [show k.toNat = 0 by omega]; rfl)]
    rw [fit_or (p := ⟨1, n - at_ - k, ByteArray.empty⟩) (x := List.replicate (n - at_ - k).toNat .k) (fun q => ⟨fit_keep q (by show n - at_ - k ≤ _; omega), atoms_keep _ _⟩) (fun q => by have : n - at_ - k < 1 := q; rw [show (n - at_ - k).toNat = 0 by omega]; rfl)]
    simp [fitA, atomsL]
  have hg := norm_good [⟨1, at_, ByteArray.empty⟩, ⟨2, (Lib.runeCount s : Int), s⟩, ⟨3, k, ByteArray.empty⟩, ⟨1, n - at_ - k, ByteArray.empty⟩] (by
    show ((fitA _).length : Int) ≤ _
    rw [hA]
    simp only [List.length_append, List.length_replicate, List.length_map]
    omega)
  refine ⟨hg.1, ?_, ?_⟩
  · have h2 := hg.2
    have hAA : atomsL (List.filter fitsB [⟨1, at_, ByteArray.empty⟩, ⟨2, (Lib.runeCount s : Int), s⟩, ⟨3, k, ByteArray.empty⟩, ⟨1, n - at_ - k, ByteArray.empty⟩]) = _ := hA
    rw [hAA] at h2
    show atomsL (normL _) = _
    rw [h2]
    have kk : ∀ m : Nat, At.canG [] 0 (List.replicate m .k) = List.replicate m .k := fun m => by
      have := nf_rep m
      exact this
    have tail : At.canG [] 0 (cs.map .p ++ (List.replicate k.toNat .d ++ List.replicate (n - at_ - k).toNat .k)) = cs.map .p ++ (List.replicate k.toNat .d ++ List.replicate (n - at_ - k).toNat .k) := by
      rw [canG_map, canG_rep_d]
      by_cases hz : (n - at_ - k).toNat = 0
      · rw [hz]; simp [At.canG]
      · have := canG_rep_k ([] ++ cs) (0 + k.toNat) (n - at_ - k).toNat [] hz
        rw [List.append_nil] at this
        rw [this]
        simp [At.canG]
    unfold At.can
    by_cases hz : at_.toNat = 0
    · rw [hz]; simpa using tail
    · rw [canG_rep_k _ _ _ _ hz, tail]; simp
  · have := normL_len [⟨1, at_, ByteArray.empty⟩, ⟨2, (Lib.runeCount s : Int), s⟩, ⟨3, k, ByteArray.empty⟩, ⟨1, n - at_ - k, ByteArray.empty⟩]
    simpa [repL] using this
theorem ed_check {l : List Pt} {f t : Nat} (h : IsEd l f t) : checkE l (f : Int) = 0 := by
  unfold checkE
  rw [ed_size h]
  simp
theorem ed_isOf {l : List Pt} {t : Nat} {s : ByteArray} {cs : List (List UInt8)} (h : Tx s cs) (he : IsEd l cs.length t) : isOfB l s = true := by
  unfold isOfB
  rw [h.valid, h.count, ed_check he]
  rfl
theorem ed_text {l : List Pt} {f t : Nat} (h : IsEd l f t) : ∀ p ∈ l, p.text.size ≤ 281474976710656 := fun p hp => by
  have h1 := ed_fit h p hp
  have := h1.1.size
  have := h1.2
  omega
/-- Apply of an edit of that text -/
theorem apply_ed {a : Option Addr} {l : List Pt} {c t : Nat} {s : ByteArray} {cs : List (List UInt8)} {w : World} (hT : UT w) (hp : PtsAt w a l) (hc : l.length ≤ maxLen) (h : Tx s cs) (he : IsEd l cs.length t) :
    Calls Tryd.prog 39 #[.slice a l.length c, .string s] w fun r w' => ∃ S, r = .returned (.tuple #[.string S, .int .i64 0]) ∧ Tx S (At.app (atomsL l) cs) ∧ Below w.heap.size w w' := by
  have hsz : s.size ≤ 281474976710656 := by
    have h1 := h.cps.most
    rw [← h.size] at h1
    have h2 := he.2.2.2.1
    omega
  refine Calls.mono (apply_any a l c s w hT hp hc (ed_text he) hsz) ?_
  rintro r w' ⟨h1, hb⟩
  rcases h1 with ⟨h1, _⟩ | ⟨_, S, ds, h2, h3, rfl⟩
  · rw [ed_isOf h he] at h1; cases h1
  · rw [h.inj h2]
    exact ⟨S, rfl, h3, hb⟩
theorem tr_ab : At.can (At.one (List.replicate 1 At.k ++ ([[97]].map At.p ++ (List.replicate 0 At.d ++ List.replicate 1 At.k))) (List.replicate 1 At.k ++ ([[98]].map At.p ++ (List.replicate 0 At.d ++ List.replicate 1 At.k)))) = [.k, .p [97], .k, .k] ∧ At.can (At.two (List.replicate 1 At.k ++ ([[97]].map At.p ++ (List.replicate 0 At.d ++ List.replicate 1 At.k))) (List.replicate 1 At.k ++ ([[98]].map At.p ++ (List.replicate 0 At.d ++ List.replicate 1 At.k)))) = [.k, .k, .p [98], .k] := by
  simp [List.replicate, At.one, At.two, At.can, At.canG]
theorem ed_traB {la lb : List Pt} {n t1 t2 : Nat} (h1 : IsEd la n t1) (h2 : IsEd lb n t2) : traB la lb = true := by
  unfold traB
  rw [ed_size h1]
  simp [ed_check h2]
theorem ed_comB {la lb : List Pt} {n m t : Nat} (h1 : IsEd la n m) (h2 : IsEd lb m t) : comB la lb = true := by
  unfold comB
  rw [ed_size h1]
  simp [ed_check h2]
theorem rp5 : repO 5 2 1 ⟨#[120, 121]⟩ = repL 5 2 1 ⟨#[120, 121]⟩ ∧ atomsL (repL 5 2 1 ⟨#[120, 121]⟩) = List.replicate 2 At.k ++ ([[120], [121]].map At.p ++ (List.replicate 1 At.d ++ List.replicate 2 At.k)) ∧ IsEd (repL 5 2 1 ⟨#[120, 121]⟩) 5 6 ∧ (repL 5 2 1 ⟨#[120, 121]⟩).length ≤ 11 := by
  have q := rep_ed (tx_ascii [120, 121] (by decide)) (n := 5) (at_ := 2) (k := 1) (by decide) (by decide) (by decide) (by decide) (by decide) (by decide) (by decide)
  have e : atomsL (repL 5 2 1 ⟨#[120, 121]⟩) = List.replicate 2 At.k ++ ([[120], [121]].map At.p ++ (List.replicate 1 At.d ++ List.replicate 2 At.k)) := q.2.1
  refine ⟨?_, e, ⟨q.1, ?_, ?_, by decide, by decide⟩, q.2.2⟩
  · unfold repO
    rw [if_pos (repB_true (tx_ascii [120, 121] (by decide)) (by decide) (by decide) (by decide) (by decide) (by decide) (by decide) (by decide))]
  · rw [e]; rfl
  · rw [e]; rfl
theorem rpa : repO 2 1 0 ⟨#[97]⟩ = repL 2 1 0 ⟨#[97]⟩ ∧ atomsL (repL 2 1 0 ⟨#[97]⟩) = List.replicate 1 At.k ++ ([[97]].map At.p ++ (List.replicate 0 At.d ++ List.replicate 1 At.k)) ∧ IsEd (repL 2 1 0 ⟨#[97]⟩) 2 3 ∧ (repL 2 1 0 ⟨#[97]⟩).length ≤ 11 := by
  have q := rep_ed (tx_ascii [97] (by decide)) (n := 2) (at_ := 1) (k := 0) (by decide) (by decide) (by decide) (by decide) (by decide) (by decide) (by decide)
  have e : atomsL (repL 2 1 0 ⟨#[97]⟩) = List.replicate 1 At.k ++ ([[97]].map At.p ++ (List.replicate 0 At.d ++ List.replicate 1 At.k)) := q.2.1
  refine ⟨?_, e, ⟨q.1, ?_, ?_, by decide, by decide⟩, q.2.2⟩
  · unfold repO
    rw [if_pos (repB_true (tx_ascii [97] (by decide)) (by decide) (by decide) (by decide) (by decide) (by decide) (by decide) (by decide))]
  · rw [e]; rfl
  · rw [e]; rfl
theorem rpb : repO 2 1 0 ⟨#[98]⟩ = repL 2 1 0 ⟨#[98]⟩ ∧ atomsL (repL 2 1 0 ⟨#[98]⟩) = List.replicate 1 At.k ++ ([[98]].map At.p ++ (List.replicate 0 At.d ++ List.replicate 1 At.k)) ∧ IsEd (repL 2 1 0 ⟨#[98]⟩) 2 3 ∧ (repL 2 1 0 ⟨#[98]⟩).length ≤ 11 := by
  have q := rep_ed (tx_ascii [98] (by decide)) (n := 2) (at_ := 1) (k := 0) (by decide) (by decide) (by decide) (by decide) (by decide) (by decide) (by decide)
  have e : atomsL (repL 2 1 0 ⟨#[98]⟩) = List.replicate 1 At.k ++ ([[98]].map At.p ++ (List.replicate 0 At.d ++ List.replicate 1 At.k)) := q.2.1
  refine ⟨?_, e, ⟨q.1, ?_, ?_, by decide, by decide⟩, q.2.2⟩
  · unfold repO
    rw [if_pos (repB_true (tx_ascii [98] (by decide)) (by decide) (by decide) (by decide) (by decide) (by decide) (by decide) (by decide))]
  · rw [e]; rfl
  · rw [e]; rfl
set_option maxRecDepth 100000 in
set_option maxHeartbeats 4000000 in
theorem awake_any (w : World) (hT : UT w) : Calls Tryd.prog 22 #[] w fun r w' => r = .returned (.bool true) ∧ Below w.heap.size w w' := by
  have HU : Hid (∀ W, Below w.heap.size w W → UT W) := hide (fun W h => hT.call h)
  have HB0 := hide (Below.refl w.heap.size w)
  clear hT
  go_enter Tryd.func22, Tryd.ntmps22
  go_wp2_with fail
  refine Calls.mono (lreplace_any 5 2 1 ⟨#[120, 121]⟩ _ (unhide HU _ (unhide HB0)) (by decide) (by decide) (by decide)) ?_
  rintro r w1 ⟨vm, rfl, hv, hb⟩
  rw [rp5.1] at hv
  obtain ⟨am, cm, hvm, hpm, ham, hlm, hmm⟩ := OwnP.open hv
  subst hvm
  have HPm := hide (⟨hpm, ham, hlm, hmm⟩ : PtsAt w1 am _ ∧ AtB w1 am ∧ _ ≤ cm ∧ cm ≤ maxLen)
  have HBm := hide ((unhide HB0).trans (hb.mono (unhide HB0).size))
  have HLLm := hide rp5.2.2.2
  have HWm := hide hb
  clear hv hb hpm ham hlm hmm
  obtain ⟨lm, hlem⟩ : ∃ z, repL 5 2 1 ⟨#[120, 121]⟩ = z := ⟨_, rfl⟩
  have HEm := hide (show atomsL lm = _ ∧ IsEd lm _ _ by rw [← hlem]; exact ⟨rp5.2.1, rp5.2.2.1⟩)
  rw [hlem] at HPm HLLm ⊢
  clear hlem
  obtain ⟨nm, hnm⟩ : ∃ z, lm.length = z := ⟨_, rfl⟩
  have HNm := hide hnm
  rw [hnm] at HPm HLLm ⊢
  clear hnm
  go_wp2_with fail
  have HX := hide (apply_ed (a := am) (l := lm) (c := cm) (unhide HU _ (unhide HBm)) (unhide HPm).1 (by rw [unhide HNm]; exact Nat.le_trans (unhide HPm).2.2.1 (unhide HPm).2.2.2) (tx_ascii [104, 101, 108, 108, 111] (by decide)) (unhide HEm).2)
  rw [unhide HNm] at HX
  refine Calls.mono (unhide HX) ?_
  rintro r w2 ⟨S1, rfl, hS, hb⟩
  rw [(unhide HEm).1] at hS
  have eS1 : S1 = ⟨#[104, 101, 120, 121, 108, 111]⟩ := hS.bytes
  subst eS1
  have HB2 := hide ((unhide HBm).trans (hb.mono (unhide HBm).size))
  clear hS hb HX
  go_wp2_with fail
  refine Calls.mono (lreplace_any 2 1 0 ⟨#[97]⟩ _ (unhide HU _ (unhide HB2)) (by decide) (by decide) (by decide)) ?_
  rintro r w3 ⟨vx, rfl, hv, hb⟩
  rw [rpa.1] at hv
  obtain ⟨ax, cx, hvx, hpx, hax, hlx, hmx⟩ := OwnP.open hv
  subst hvx
  have HPx := hide (⟨hpx, hax, hlx, hmx⟩ : PtsAt w3 ax _ ∧ AtB w3 ax ∧ _ ≤ cx ∧ cx ≤ maxLen)
  have HBx := hide ((unhide HB2).trans (hb.mono (unhide HB2).size))
  have HLLx := hide rpa.2.2.2
  have HWx := hide hb
  clear hv hb hpx hax hlx hmx
  obtain ⟨lx, hlex⟩ : ∃ z, repL 2 1 0 ⟨#[97]⟩ = z := ⟨_, rfl⟩
  have HEx := hide (show atomsL lx = _ ∧ IsEd lx _ _ by rw [← hlex]; exact ⟨rpa.2.1, rpa.2.2.1⟩)
  rw [hlex] at HPx HLLx ⊢
  clear hlex
  obtain ⟨nx, hnx⟩ : ∃ z, lx.length = z := ⟨_, rfl⟩
  have HNx := hide hnx
  rw [hnx] at HPx HLLx ⊢
  clear hnx
  go_wp2_with fail
  refine Calls.mono (lreplace_any 2 1 0 ⟨#[98]⟩ _ (unhide HU _ (unhide HBx)) (by decide) (by decide) (by decide)) ?_
  rintro r w4 ⟨vy, rfl, hv, hb⟩
  rw [rpb.1] at hv
  obtain ⟨ay, cy, hvy, hpy, hay, hly, hmy⟩ := OwnP.open hv
  subst hvy
  have HPy := hide (⟨hpy, hay, hly, hmy⟩ : PtsAt w4 ay _ ∧ AtB w4 ay ∧ _ ≤ cy ∧ cy ≤ maxLen)
  have HBy := hide ((unhide HBx).trans (hb.mono (unhide HBx).size))
  have HLLy := hide rpb.2.2.2
  have HWy := hide hb
  clear hv hb hpy hay hly hmy
  obtain ⟨ly, hley⟩ : ∃ z, repL 2 1 0 ⟨#[98]⟩ = z := ⟨_, rfl⟩
  have HEy := hide (show atomsL ly = _ ∧ IsEd ly _ _ by rw [← hley]; exact ⟨rpb.2.1, rpb.2.2.1⟩)
  rw [hley] at HPy HLLy ⊢
  clear hley
  obtain ⟨ny, hny⟩ : ∃ z, ly.length = z := ⟨_, rfl⟩
  have HNy := hide hny
  rw [hny] at HPy HLLy ⊢
  clear hny
  go_wp2_with fail
  have HTR := hide (transform_any ax ay lx ly cx cy w4 (unhide HU _ (unhide HBy)) ((unhide HPx).1.call (unhide HWy)) (unhide HPy).1 ((unhide HPx).2.1.call (unhide HWy)) (unhide HPy).2.1 (by rw [unhide HNx]; exact (unhide HPx).2.2.1) (by rw [unhide HNy]; exact (unhide HPy).2.2.1) (unhide HPx).2.2.2 (unhide HPy).2.2.2 (ed_text (unhide HEx).2) (ed_text (unhide HEy).2) (by rw [unhide HNx, unhide HNy]; have h1 := unhide HLLx; have h2 := unhide HLLy; omega))
  rw [unhide HNx, unhide HNy] at HTR
  refine Calls.mono (unhide HTR) ?_
  rintro r w5 ⟨h5, hb5⟩
  have hb5' := (unhide HBy).trans (hb5.mono (unhide HBy).size)
  rcases h5 with ⟨h5, _⟩ | ⟨_, c1, c2, n1, n2, e1, e2, m1, m2, h5⟩
  · rw [ed_traB (unhide HEx).2 (unhide HEy).2] at h5; cases h5
  rw [(unhide HEx).1, (unhide HEy).1] at e1 e2
  have ed1 : IsEd c1 3 4 := ⟨n1, by rw [e1, tr_ab.1]; rfl, by rw [e1, tr_ab.1]; rfl, by decide, by decide⟩
  have ed2 : IsEd c2 3 4 := ⟨n2, by rw [e2, tr_ab.2]; rfl, by rw [e2, tr_ab.2]; rfl, by decide, by decide⟩
  rw [tr_ab.1] at e1
  rw [tr_ab.2] at e2
  rcases h5 with ⟨h5, _⟩ | ⟨_, v1, v2, rfl, ov1, ov2⟩
  · rw [ed_size ed1] at h5; cases h5
  obtain ⟨au, cu, hvu, hpu, hau, hlu, hmu⟩ := ov1.open
  obtain ⟨av, cv, hvv, hpv, hav, hlv, hmv⟩ := ov2.open
  subst hvu hvv
  have HPu := hide (⟨hpu, hau, hlu, hmu⟩ : PtsAt w5 au c1 ∧ AtB w5 au ∧ _ ≤ cu ∧ cu ≤ maxLen)
  have HPv := hide (⟨hpv, hav, hlv, hmv⟩ : PtsAt w5 av c2 ∧ AtB w5 av ∧ _ ≤ cv ∧ cv ≤ maxLen)
  have HB5 := hide hb5'
  have HEu := hide (⟨e1, ed1⟩ : atomsL c1 = _ ∧ IsEd c1 3 4)
  have HEv := hide (⟨e2, ed2⟩ : atomsL c2 = _ ∧ IsEd c2 3 4)
  clear hb5 hb5' n1 n2 e1 e2 m1 m2 ed1 ed2 ov1 ov2 hpu hau hlu hmu hpv hav hlv hmv HTR
  obtain ⟨lu, hluu⟩ : ∃ z, c1 = z := ⟨_, rfl⟩
  obtain ⟨lv, hlvv⟩ : ∃ z, c2 = z := ⟨_, rfl⟩
  rw [hluu] at HPu HEu ⊢
  rw [hlvv] at HPv HEv ⊢
  clear hluu hlvv
  obtain ⟨nu, hnu⟩ : ∃ z, lu.length = z := ⟨_, rfl⟩
  obtain ⟨nv, hnv⟩ : ∃ z, lv.length = z := ⟨_, rfl⟩
  have HNu := hide hnu
  have HNv := hide hnv
  rw [hnu] at HPu ⊢
  rw [hnv] at HPv ⊢
  clear hnu hnv
  go_wp2_with fail
  refine Calls.mono (lreplace_any 2 1 0 ⟨#[98]⟩ _ (unhide HU _ (unhide HB5)) (by decide) (by decide) (by decide)) ?_
  rintro r w6 ⟨vz, rfl, hv, hb⟩
  rw [rpb.1] at hv
  obtain ⟨az, cz, hvz, hpz, haz, hlz, hmz⟩ := OwnP.open hv
  subst hvz
  have HPz := hide (⟨hpz, haz, hlz, hmz⟩ : PtsAt w6 az _ ∧ AtB w6 az ∧ _ ≤ cz ∧ cz ≤ maxLen)
  have HBz := hide ((unhide HB5).trans (hb.mono (unhide HB5).size))
  have HLLz := hide rpb.2.2.2
  have HWz := hide hb
  clear hv hb hpz haz hlz hmz
  obtain ⟨lz, hlez⟩ : ∃ z, repL 2 1 0 ⟨#[98]⟩ = z := ⟨_, rfl⟩
  have HEz := hide (show atomsL lz = _ ∧ IsEd lz _ _ by rw [← hlez]; exact ⟨rpb.2.1, rpb.2.2.1⟩)
  rw [hlez] at HPz HLLz ⊢
  clear hlez
  obtain ⟨nz, hnz⟩ : ∃ z, lz.length = z := ⟨_, rfl⟩
  have HNz := hide hnz
  rw [hnz] at HPz HLLz ⊢
  clear hnz
  go_wp2_with fail
  have HX := hide (apply_ed (a := az) (l := lz) (c := cz) (unhide HU _ (unhide HBz)) (unhide HPz).1 (by rw [unhide HNz]; exact Nat.le_trans (unhide HPz).2.2.1 (unhide HPz).2.2.2) (tx_ascii [49, 50] (by decide)) (unhide HEz).2)
  rw [unhide HNz] at HX
  refine Calls.mono (unhide HX) ?_
  rintro r w7 ⟨S2, rfl, hS, hb⟩
  rw [(unhide HEz).1] at hS
  have eS2 : S2 = ⟨#[49, 98, 50]⟩ := hS.bytes
  subst eS2
  have HW7 := hide hb
  have HB7 := hide ((unhide HBz).trans (hb.mono (unhide HBz).size))
  clear hS hb HX
  go_wp2_with fail
  have HX := hide (apply_ed (a := au) (l := lu) (c := cu) (unhide HU _ (unhide HB7)) (((unhide HPu).1.call (unhide HWz)).call (unhide HW7)) (by rw [unhide HNu]; exact Nat.le_trans (unhide HPu).2.2.1 (unhide HPu).2.2.2) (tx_ascii [49, 98, 50] (by decide)) (unhide HEu).2)
  rw [unhide HNu] at HX
  refine Calls.mono (unhide HX) ?_
  rintro r w8 ⟨S3, rfl, hS, hb⟩
  rw [(unhide HEu).1] at hS
  have eS3 : S3 = ⟨#[49, 97, 98, 50]⟩ := hS.bytes
  subst eS3
  have HW8 := hide hb
  have HB8 := hide ((unhide HB7).trans (hb.mono (unhide HB7).size))
  clear hS hb HX
  go_wp2_with fail
  have HX := hide (apply_ed (a := av) (l := lv) (c := cv) (unhide HU _ (unhide HB8)) ((((unhide HPv).1.call (unhide HWz)).call (unhide HW7)).call (unhide HW8)) (by rw [unhide HNv]; exact Nat.le_trans (unhide HPv).2.2.1 (unhide HPv).2.2.2) (tx_ascii [49, 97, 50] (by decide)) (unhide HEv).2)
  rw [unhide HNv] at HX
  refine Calls.mono (unhide HX) ?_
  rintro r w9 ⟨S4, rfl, hS, hb⟩
  rw [(unhide HEv).1] at hS
  have eS4 : S4 = ⟨#[49, 97, 98, 50]⟩ := hS.bytes
  subst eS4
  have HB9 := hide ((unhide HB8).trans (hb.mono (unhide HB8).size))
  clear hS hb HX
  have HCK := hide (check_any none [] 0 1 w9 (unhide HU _ (unhide HB9)) (.inl rfl) (by simp) (by simp))
  rw [show checkE [] 1 = 30 from rfl] at HCK
  go_wp2_with fail
  refine Calls.mono (unhide HCK) ?_
  rintro r w10 ⟨rfl, hb10⟩
  have HB10 := hide ((unhide HB9).trans (hb10.mono (unhide HB9).size))
  clear hb10 HCK
  go_wp2_with fail
  go_ret
  exact ⟨rfl, unhide HB10⟩
end Go.Proofs.YtidblnjohkadhaaDoor
