/- The examples. -/
import Derived.Test.YtonabfpgdgnpnaaDoorCmp
import Derived.Test.YtonabfpgdgnpnaaDoorApl
namespace Go.Proofs.YtonabfpgdgnpnaaDoor
set_option linter.unusedVariables false
set_option linter.unusedSimpArgs false
open Go.ChangeShapes Go.WideShapes Go.ChangeAt Go.RowKit Go.Joins Go.Deep

theorem cp_ascii (b : UInt8) (h : b.toNat < 128) : Cp [b] := by
  have e : Lib.decodeL [b] = (b.toNat, 1) := by
    rw [Lib.decodeL_N]
    unfold Lib.decodeN
    simp [h]
  refine ⟨by simp, ?_, by rw [e]; rfl⟩
  rw [e]
  simp
  omega
theorem cps_ascii : ∀ l : List UInt8, (∀ b ∈ l, b.toNat < 128) → Cps (l.map (fun b => [b]))
  | [], _ => Cps.nil
  | b :: l, h => Cps.cons (cp_ascii b (h b (List.mem_cons_self ..))) (cps_ascii l (fun c hc => h c (List.mem_cons_of_mem _ hc)))
theorem tx_ascii (l : List UInt8) (h : ∀ b ∈ l, b.toNat < 128) : Tx ⟨l.toArray⟩ (l.map (fun b => [b])) := by
  refine ⟨cps_ascii l h, ?_⟩
  clear h
  induction l with
  | nil => rfl
  | cons b l ih => simp at ih ⊢; exact ih
theorem tx_empty : Tx ByteArray.empty [] := ⟨Cps.nil, rfl⟩
theorem Tx.bytes {s : ByteArray} {cs : List (List UInt8)} (h : Tx s cs) : s = ⟨cs.flatten.toArray⟩ := ByteArray.ext (Array.toList_inj.1 (by rw [h.eq]))
theorem fit_keep {n : Int} (h1 : 1 ≤ n) (h2 : n ≤ 1099511627776) : Fit1 ⟨1, n, ByteArray.empty⟩ := ⟨good_keep (by omega), h2⟩
theorem repB_true {n at_ k : Int} {s : ByteArray} {cs : List (List UInt8)} (h : Tx s cs) (n0 : 0 ≤ n) (n1 : n ≤ 1099511627776) (a0 : 0 ≤ at_) (a1 : at_ ≤ n) (k0 : 0 ≤ k) (k1 : k ≤ n - at_) (hl : (cs.length : Int) ≤ 1099511627776 - n) : repB n at_ k s = true := by
  unfold repB
  simp only [Bool.and_eq_true, decide_eq_true_eq]
  exact ⟨⟨n0, n1⟩, ⟨a0, a1⟩, ⟨k0, k1⟩, h.valid, by rw [h.count]; exact hl⟩
theorem repB_has {n at_ k : Int} {s : ByteArray} (h : repB n at_ k s = true) : ∃ cs, Tx s cs ∧ 0 ≤ n ∧ n ≤ 1099511627776 ∧ 0 ≤ at_ ∧ at_ ≤ n ∧ 0 ≤ k ∧ k ≤ n - at_ ∧ (cs.length : Int) ≤ 1099511627776 - n := by
  unfold repB at h
  simp only [Bool.and_eq_true, decide_eq_true_eq] at h
  obtain ⟨h1, h2, h3, h4, h5⟩ := h
  obtain ⟨cs, hcs⟩ := tx_of_valid h4
  rw [hcs.count] at h5
  exact ⟨cs, hcs, h1.1, h1.2, h2.1, h2.2, h3.1, h3.2, h5⟩
theorem fit_or {p : Pt} {x : List At} (h1 : 1 ≤ p.n → Fit1 p ∧ atoms p = x) (h0 : p.n < 1 → x = []) : (if fitsB p = true then atoms p else []) = x := by
  by_cases hn : 1 ≤ p.n
  · obtain ⟨h2, h3⟩ := h1 hn
    rw [if_pos (fits_of_good h2.1 h2.2), h3]
  · have : ¬ fitsB p = true := fun e => hn (good_of_fits e).1.1
    rw [if_neg this, h0 (by omega)]
theorem nf_rep (m : Nat) : At.canG [] 0 (List.replicate m .k) = List.replicate m .k := by
  by_cases hz : m = 0
  · rw [hz]; rfl
  · have := canG_rep_k [] 0 m [] hz
    rw [List.append_nil] at this
    rw [this]
    simp [At.canG]
/-- a stretch becomes a text, by single steps -/
theorem rep_ed {n at_ k : Int} {s : ByteArray} {cs : List (List UInt8)} (h : Tx s cs) (n0 : 0 ≤ n) (n1 : n ≤ 1099511627776) (a0 : 0 ≤ at_) (a1 : at_ ≤ n) (k0 : 0 ≤ k) (k1 : k ≤ n - at_) (hl : (cs.length : Int) ≤ 1099511627776 - n) :
    NfG 0 (repL n at_ k s) ∧ atomsL (repL n at_ k s) = List.replicate at_.toNat .k ++ (cs.map .p ++ (List.replicate k.toNat .d ++ List.replicate (n - at_ - k).toNat .k)) ∧ (repL n at_ k s).length ≤ 11 := by
  have hA : fitA [⟨1, at_, ByteArray.empty⟩, ⟨2, (Lib.runeCount s : Int), s⟩, ⟨3, k, ByteArray.empty⟩, ⟨1, n - at_ - k, ByteArray.empty⟩] = List.replicate at_.toNat .k ++ (cs.map .p ++ (List.replicate k.toNat .d ++ List.replicate (n - at_ - k).toNat .k)) := by
    have e : ([⟨1, at_, ByteArray.empty⟩, ⟨2, (Lib.runeCount s : Int), s⟩, ⟨3, k, ByteArray.empty⟩, ⟨1, n - at_ - k, ByteArray.empty⟩] : List Pt) = ((([] ++ [⟨1, at_, ByteArray.empty⟩]) ++ [⟨2, (Lib.runeCount s : Int), s⟩]) ++ [⟨3, k, ByteArray.empty⟩]) ++ [⟨1, n - at_ - k, ByteArray.empty⟩] := rfl
    rw [e, fitA_snoc, fitA_snoc, fitA_snoc, fitA_snoc]
    rw [fit_or (p := ⟨1, at_, ByteArray.empty⟩) (x := List.replicate at_.toNat .k) (fun q => ⟨fit_keep q (by omega), atoms_keep _ _⟩) (fun q => by have : at_ < 1 := q; rw [show at_.toNat = 0 by omega]; rfl)]
    rw [fit_or (p := ⟨2, (Lib.runeCount s : Int), s⟩) (x := cs.map .p) (fun q => ⟨⟨⟨q, .inr (.inr ⟨rfl, cs, h, by rw [h.count]⟩)⟩, by show (Lib.runeCount s : Int) ≤ _; rw [h.count]; omega⟩, atoms_put h⟩) (fun q => by have q' : (Lib.runeCount s : Int) < 1 := q; rw [h.count] at q'; rw [List.length_eq_zero_iff.1 (show cs.length = 0 by omega)]; rfl)]
    rw [fit_or (p := ⟨3, k, ByteArray.empty⟩) (x := List.replicate k.toNat .d) (fun q => ⟨⟨good_drop (by have : 1 ≤ k := q; omega), by show k ≤ _; omega⟩, atoms_drop _ _⟩) (fun q => by have : k < 1 := q; rw [show k.toNat = 0 by omega]; rfl)]
    rw [fit_or (p := ⟨1, n - at_ - k, ByteArray.empty⟩) (x := List.replicate (n - at_ - k).toNat .k) (fun q => ⟨fit_keep q (by show n - at_ - k ≤ _; omega), atoms_keep _ _⟩) (fun q => by have : n - at_ - k < 1 := q; rw [show (n - at_ - k).toNat = 0 by omega]; rfl)]
    simp [fitA, atomsL]
  have hg := norm_good [⟨1, at_, ByteArray.empty⟩, ⟨2, (Lib.runeCount s : Int), s⟩, ⟨3, k, ByteArray.empty⟩, ⟨1, n - at_ - k, ByteArray.empty⟩] (by
    show ((fitA _).length : Int) ≤ _
    rw [hA]
    simp only [List.length_append, List.length_replicate, List.length_map]
    omega)
  refine ⟨hg.1, ?_, ?_⟩
  · have h2 := hg.2
    have hAA : atomsL (List.filter fitsB [⟨1, at_, ByteArray.empty⟩, ⟨2, (Lib.runeCount s : Int), s⟩, ⟨3, k, ByteArray.empty⟩, ⟨1, n - at_ - k, ByteArray.empty⟩]) = _ := hA
    rw [hAA] at h2
    show atomsL (normL _) = _
    rw [h2]
    have kk : ∀ m : Nat, At.canG [] 0 (List.replicate m .k) = List.replicate m .k := fun m => by
      have := nf_rep m
      exact this
    have tail : At.canG [] 0 (cs.map .p ++ (List.replicate k.toNat .d ++ List.replicate (n - at_ - k).toNat .k)) = cs.map .p ++ (List.replicate k.toNat .d ++ List.replicate (n - at_ - k).toNat .k) := by
      rw [canG_map, canG_rep_d]
      by_cases hz : (n - at_ - k).toNat = 0
      · rw [hz]; simp [At.canG]
      · have := canG_rep_k ([] ++ cs) (0 + k.toNat) (n - at_ - k).toNat [] hz
        rw [List.append_nil] at this
        rw [this]
        simp [At.canG]
    unfold At.can
    by_cases hz : at_.toNat = 0
    · rw [hz]; simpa using tail
    · rw [canG_rep_k _ _ _ _ hz, tail]; simp
  · have := normL_len [⟨1, at_, ByteArray.empty⟩, ⟨2, (Lib.runeCount s : Int), s⟩, ⟨3, k, ByteArray.empty⟩, ⟨1, n - at_ - k, ByteArray.empty⟩]
    simpa [repL] using this
theorem ed_check {l : List Pt} {f t : Nat} (h : IsEd l f t) : checkE l (f : Int) = 0 := by
  unfold checkE
  rw [ed_size h]
  simp
theorem ed_isOf {l : List Pt} {t : Nat} {s : ByteArray} {cs : List (List UInt8)} (h : Tx s cs) (he : IsEd l cs.length t) : isOfB l s = true := by
  unfold isOfB
  rw [h.valid, h.count, ed_check he]
  rfl
theorem ed_text {l : List Pt} {f t : Nat} (h : IsEd l f t) : ∀ p ∈ l, p.text.size ≤ 281474976710656 := fun p hp => by
  have h1 := ed_fit h p hp
  have := h1.1.size
  have := h1.2
  omega
/-- Apply of an edit of that text -/
theorem apply_ed {a : Option Addr} {l : List Pt} {c t : Nat} {s : ByteArray} {cs : List (List UInt8)} {w : World} (hT : UT w) (hp : PtsAt w a l) (hc : l.length ≤ maxLen) (h : Tx s cs) (he : IsEd l cs.length t) :
    Calls Tryd.prog 20 #[.slice a l.length c, .string s] w fun r w' => ∃ S, r = .returned (.tuple #[.string S, .int .i64 0]) ∧ Tx S (At.app (atomsL l) cs) ∧ Below w.heap.size w w' := by
  have hsz : s.size ≤ 281474976710656 := by
    have h1 := h.cps.most
    rw [← h.size] at h1
    have h2 := he.2.2.2.1
    omega
  refine Calls.mono (apply_any a l c s w hT hp hc (ed_text he) hsz) ?_
  rintro r w' ⟨h1, hb⟩
  rcases h1 with ⟨h1, _⟩ | ⟨_, S, ds, h2, h3, rfl⟩
  · rw [ed_isOf h he] at h1; cases h1
  · rw [h.inj h2]
    exact ⟨S, rfl, h3, hb⟩
theorem ed_comB {la lb : List Pt} {n m t : Nat} (h1 : IsEd la n m) (h2 : IsEd lb m t) : comB la lb = true := by
  unfold comB
  rw [ed_size h1]
  simp [ed_check h2]
end Go.Proofs.YtonabfpgdgnpnaaDoor
