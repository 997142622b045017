/- Parts as rows of single steps; what Norm makes of them. -/
import Derived.Test.YtonabfpgdgnpnaaDoorRep
import Derived.Test.YtonabfpgdgnpnaaDoorSiz
import Derived.Test.YtonabfpgdgnpnaaDoorAtm
namespace Go.Proofs.YtonabfpgdgnpnaaDoor
set_option linter.unusedVariables false
set_option linter.unusedSimpArgs false
open Go.ChangeShapes Go.WideShapes Go.ChangeAt Go.RowKit Go.Joins Go.Deep

open Classical in
/-- a text's code points -/
noncomputable def cpsOf (s : ByteArray) : List (List UInt8) := if h : ∃ cs, Tx s cs then Classical.choose h else []
theorem cpsOf_eq {s : ByteArray} {cs : List (List UInt8)} (h : Tx s cs) : cpsOf s = cs := by
  unfold cpsOf
  rw [dif_pos ⟨cs, h⟩]
  exact Tx.inj (Classical.choose_spec (p := fun cs => Tx s cs) ⟨cs, h⟩) h
noncomputable def atoms (p : Pt) : List At := if p.kind = 1 then List.replicate p.n.toNat .k else if p.kind = 3 then List.replicate p.n.toNat .d else (cpsOf p.text).map .p
noncomputable def atomsL : List Pt → List At
  | [] => []
  | p :: l => atoms p ++ atomsL l
theorem atomsL_append (l m : List Pt) : atomsL (l ++ m) = atomsL l ++ atomsL m := by
  induction l with
  | nil => rfl
  | cons p l ih => simp only [List.cons_append, atomsL, ih, List.append_assoc]
theorem atomsL_one (p : Pt) : atomsL [p] = atoms p := by simp [atomsL]
/-- a part that may be, of whatever length -/
def Good (p : Pt) : Prop := 1 ≤ p.n ∧ (p.kind = 1 ∧ p.text = ByteArray.empty ∨ p.kind = 3 ∧ p.text = ByteArray.empty ∨ p.kind = 2 ∧ ∃ cs, Tx p.text cs ∧ (cs.length : Int) = p.n)
theorem size_zero {s : ByteArray} (h : s.size = 0) : s = ByteArray.empty := ByteArray.ext (Array.toList_inj.1 (by
  rw [Lib.size_eq] at h
  rw [List.length_eq_zero_iff.1 h]
  rfl))
theorem good_of_fits {p : Pt} (h : fitsB p = true) : Good p ∧ p.n ≤ 1099511627776 := by
  obtain ⟨h1, h2, h3⟩ := fitsB_has h
  refine ⟨⟨h1, ?_⟩, h2⟩
  rcases h3 with h3 | h3 | h3
  · exact .inl ⟨h3.1, size_zero h3.2⟩
  · exact .inr (.inl ⟨h3.1, size_zero h3.2⟩)
  · obtain ⟨cs, hcs⟩ := tx_of_valid h3.2.1
    exact .inr (.inr ⟨h3.1, cs, hcs, by rw [← hcs.count]; exact h3.2.2⟩)
theorem fits_of_good {p : Pt} (h : Good p) (hn : p.n ≤ 1099511627776) : fitsB p = true := by
  obtain ⟨h1, h2⟩ := h
  unfold fitsB
  simp only [Bool.and_eq_true, Bool.or_eq_true, decide_eq_true_eq]
  refine ⟨⟨h1, hn⟩, ?_⟩
  rcases h2 with h2 | h2 | ⟨h2, cs, h3, h4⟩
  · exact .inl ⟨.inl h2.1, by rw [h2.2]; rfl⟩
  · exact .inl ⟨.inr h2.1, by rw [h2.2]; rfl⟩
  · exact .inr ⟨h2, h3.valid, by rw [h3.count]; exact h4⟩
theorem len_rep (n : Nat) (s : At) : (List.replicate n s).length = n := by simp
theorem from_rep_k (n : Nat) : At.fromN (List.replicate n .k) = n := by induction n with | zero => rfl | succ n ih => rw [List.replicate_succ]; simp only [At.fromN, ih]
theorem from_rep_d (n : Nat) : At.fromN (List.replicate n .d) = n := by induction n with | zero => rfl | succ n ih => rw [List.replicate_succ]; simp only [At.fromN, ih]
theorem to_rep_k (n : Nat) : At.toN (List.replicate n .k) = n := by induction n with | zero => rfl | succ n ih => rw [List.replicate_succ]; simp only [At.toN, ih]
theorem to_rep_d (n : Nat) : At.toN (List.replicate n .d) = 0 := by induction n with | zero => rfl | succ n ih => rw [List.replicate_succ]; simp only [At.toN, ih]
theorem puts_rep_k (n : Nat) : At.putsN (List.replicate n .k) = 0 := by induction n with | zero => rfl | succ n ih => rw [List.replicate_succ]; simp only [At.putsN, ih]
theorem puts_rep_d (n : Nat) : At.putsN (List.replicate n .d) = 0 := by induction n with | zero => rfl | succ n ih => rw [List.replicate_succ]; simp only [At.putsN, ih]
theorem drops_rep_k (n : Nat) : At.dropsN (List.replicate n .k) = 0 := by induction n with | zero => rfl | succ n ih => rw [List.replicate_succ]; simp only [At.dropsN, ih]
theorem drops_rep_d (n : Nat) : At.dropsN (List.replicate n .d) = n := by induction n with | zero => rfl | succ n ih => rw [List.replicate_succ]; simp only [At.dropsN, ih]
theorem from_map (cs : List (List UInt8)) : At.fromN (cs.map .p) = 0 := by induction cs with | nil => rfl | cons c cs ih => simp only [List.map_cons, At.fromN, ih]
theorem to_map (cs : List (List UInt8)) : At.toN (cs.map .p) = cs.length := by induction cs with | nil => rfl | cons c cs ih => simp only [List.map_cons, At.toN, ih, List.length_cons]
theorem puts_map (cs : List (List UInt8)) : At.putsN (cs.map .p) = cs.length := by induction cs with | nil => rfl | cons c cs ih => simp only [List.map_cons, At.putsN, ih, List.length_cons]
theorem drops_map (cs : List (List UInt8)) : At.dropsN (cs.map .p) = 0 := by induction cs with | nil => rfl | cons c cs ih => simp only [List.map_cons, At.dropsN, ih]
/-- a good part is kept, dropped, or put -/
theorem Good.cases {p : Pt} (h : Good p) : (p.kind = 1 ∧ p.text = ByteArray.empty ∧ atoms p = List.replicate p.n.toNat .k) ∨ (p.kind = 3 ∧ p.text = ByteArray.empty ∧ atoms p = List.replicate p.n.toNat .d) ∨ (p.kind = 2 ∧ ∃ cs, Tx p.text cs ∧ (cs.length : Int) = p.n ∧ atoms p = cs.map .p) := by
  obtain ⟨h1, h2 | h2 | ⟨h2, cs, h3, h4⟩⟩ := h
  · exact .inl ⟨h2.1, h2.2, by unfold atoms; rw [if_pos h2.1]⟩
  · exact .inr (.inl ⟨h2.1, h2.2, by unfold atoms; rw [if_neg (by omega), if_pos h2.1]⟩)
  · exact .inr (.inr ⟨h2, cs, h3, h4, by unfold atoms; rw [if_neg (by omega), if_neg (by omega), cpsOf_eq h3]⟩)
theorem Good.len {p : Pt} (h : Good p) : ((atoms p).length : Int) = p.n ∧ (atoms p).length = p.n.toNat := by
  have h1 := h.1
  rcases h.cases with ⟨_, _, e⟩ | ⟨_, _, e⟩ | ⟨_, cs, _, h4, e⟩
  · rw [e, List.length_replicate]; omega
  · rw [e, List.length_replicate]; omega
  · rw [e, List.length_map]; omega
theorem Good.counts {p : Pt} (h : Good p) : (At.fromN (atoms p) : Int) = (if p.kind = 2 then 0 else p.n) ∧ (At.toN (atoms p) : Int) = (if p.kind = 3 then 0 else p.n) ∧ (At.putsN (atoms p) : Int) = (if p.kind = 2 then p.n else 0) ∧ (At.dropsN (atoms p) : Int) = (if p.kind = 3 then p.n else 0) := by
  have h1 := h.1
  rcases h.cases with ⟨k, _, e⟩ | ⟨k, _, e⟩ | ⟨k, cs, _, h4, e⟩
  · rw [e, from_rep_k, to_rep_k, puts_rep_k, drops_rep_k, k]; simp; omega
  · rw [e, from_rep_d, to_rep_d, puts_rep_d, drops_rep_d, k]; simp; omega
  · rw [e, from_map, to_map, puts_map, drops_map, k]; simp; omega
theorem Good.size {p : Pt} (h : Good p) : (p.text.size : Int) ≤ 4 * p.n := by
  have h1 := h.1
  rcases h.cases with ⟨_, e, _⟩ | ⟨_, e, _⟩ | ⟨_, cs, h3, h4, _⟩
  · rw [e]; simp; omega
  · rw [e]; simp; omega
  · have := h3.cps.most
    rw [← h3.size] at this
    omega
theorem Good.ne {p : Pt} (h : Good p) : atoms p ≠ [] := by
  intro e
  have := h.len
  have := h.1
  rw [e] at *
  simp at *
  omega
/-- parts in their one form, behind a part of that kind -/
def NfG : Int → List Pt → Prop
  | _, [] => True
  | last, p :: l => Good p ∧ p.kind ≠ last ∧ ¬ (p.kind = 2 ∧ last = 3) ∧ NfG p.kind l
def lastK : Int → List Pt → Int
  | a, [] => a
  | _, p :: l => lastK p.kind l
theorem NfG.append {l m : List Pt} : ∀ {a : Int}, NfG a l → NfG (lastK a l) m → NfG a (l ++ m) := by
  induction l with
  | nil => intro a h1 h2; exact h2
  | cons p l ih => intro a h1 h2; exact ⟨h1.1, h1.2.1, h1.2.2.1, ih h1.2.2.2 h2⟩
theorem lastK_append (l m : List Pt) : ∀ a, lastK a (l ++ m) = lastK (lastK a l) m := by
  induction l with
  | nil => intro a; rfl
  | cons p l ih => intro a; exact ih _
theorem NfG.good {l : List Pt} : ∀ {a : Int}, NfG a l → ∀ p ∈ l, Good p := by
  induction l with
  | nil => intro a h p hp; cases hp
  | cons q l ih =>
    intro a h p hp
    rcases List.mem_cons.1 hp with rfl | hp
    · exact h.1
    · exact ih h.2.2.2 p hp
theorem follows_iff (k l : Int) : followsB k l = true ↔ k ≠ l ∧ ¬ (k = 2 ∧ l = 3) := by
  unfold followsB
  by_cases h1 : k = 2 <;> by_cases h2 : l = 3 <;> simp [h1, h2]
theorem size_fold : ∀ (l : List Pt) (f0 t0 k0 f t k : Int), l.foldl sizeStep (some (f0, t0, k0)) = some (f, t, k) → NfG k0 l ∧ (∀ p ∈ l, fitsB p = true) ∧ f = f0 + At.fromN (atomsL l) ∧ t = t0 + At.toN (atomsL l) ∧ k = lastK k0 l
  | [], f0, t0, k0, f, t, k, h => by
    simp only [List.foldl_nil, Option.some.injEq, Prod.mk.injEq] at h
    obtain ⟨rfl, rfl, rfl⟩ := h
    exact ⟨trivial, (fun p hp => (List.not_mem_nil hp).elim), (by simp [atomsL, At.fromN]), (by simp [atomsL, At.toN]), rfl⟩
  | p :: l, f0, t0, k0, f, t, k, h => by
    rw [List.foldl_cons] at h
    have hnone : ∀ m : List Pt, m.foldl sizeStep none = none := by
      intro m
      induction m with
      | nil => rfl
      | cons p m ih => exact ih
    by_cases hc : fitsB p = true ∧ followsB p.kind k0 = true
    · by_cases hlim : 1099511627776 < (if p.kind = 2 then f0 else f0 + p.n) ∨ 1099511627776 < (if p.kind = 3 then t0 else t0 + p.n)
      · have e : sizeStep (some (f0, t0, k0)) p = none := by simp only [sizeStep]; rw [if_pos hc, if_pos hlim]
        rw [e, hnone] at h
        cases h
      · have e : sizeStep (some (f0, t0, k0)) p = some (if p.kind = 2 then f0 else f0 + p.n, if p.kind = 3 then t0 else t0 + p.n, p.kind) := by simp only [sizeStep]; rw [if_pos hc, if_neg hlim]
        rw [e] at h
        obtain ⟨h1, h2, h3, h4, h5⟩ := size_fold l _ _ _ _ _ _ h
        have hg := (good_of_fits hc.1).1
        have hf := (follows_iff _ _).1 hc.2
        have hcnt := hg.counts
        refine ⟨⟨hg, hf.1, hf.2, h1⟩, ?_, ?_, ?_, h5⟩
        · intro q hq
          rcases List.mem_cons.1 hq with rfl | hq
          · exact hc.1
          · exact h2 q hq
        · rw [h3, atomsL, At.from_app]
          have := hcnt.1
          push_cast
          split at this <;> rename_i hk
          · rw [if_pos hk]; omega
          · rw [if_neg hk]; omega
        · rw [h4, atomsL, At.to_app]
          have := hcnt.2.1
          push_cast
          split at this <;> rename_i hk
          · rw [if_pos hk]; omega
          · rw [if_neg hk]; omega
    · have e : sizeStep (some (f0, t0, k0)) p = none := by simp only [sizeStep]; rw [if_neg hc]
      rw [e, hnone] at h
      cases h
theorem fold_size : ∀ (l : List Pt) (f0 t0 k0 : Int), NfG k0 l → 0 ≤ f0 → 0 ≤ t0 → f0 + At.fromN (atomsL l) ≤ 1099511627776 → t0 + At.toN (atomsL l) ≤ 1099511627776 → l.foldl sizeStep (some (f0, t0, k0)) = some (f0 + At.fromN (atomsL l), t0 + At.toN (atomsL l), lastK k0 l)
  | [], f0, t0, k0, _, _, _, _, _ => by simp [atomsL, At.fromN, At.toN, lastK]
  | p :: l, f0, t0, k0, h, hf, ht, hF, hT => by
    obtain ⟨hg, h2, h3, h4⟩ := h
    have hcnt := hg.counts
    have hn := hg.1
    rw [atomsL, At.from_app] at hF
    rw [atomsL, At.to_app] at hT
    rw [atomsL, At.from_app, At.to_app]
    push_cast at hF hT ⊢
    have c1 := hcnt.1
    have c2 := hcnt.2.1
    have hle : p.n ≤ 1099511627776 := by
      rcases hg.cases with ⟨k, _⟩ | ⟨k, _⟩ | ⟨k, _⟩ <;> simp [k] at c1 c2 <;> omega
    have e : sizeStep (some (f0, t0, k0)) p = some (if p.kind = 2 then f0 else f0 + p.n, if p.kind = 3 then t0 else t0 + p.n, p.kind) := by
      simp only [sizeStep]
      rw [if_pos ⟨fits_of_good hg hle, (follows_iff _ _).2 ⟨h2, h3⟩⟩, if_neg]
      rcases hg.cases with ⟨k, _⟩ | ⟨k, _⟩ | ⟨k, _⟩ <;> simp [k] at c1 c2 ⊢ <;> omega
    rw [List.foldl_cons, e]
    have key := fold_size l (if p.kind = 2 then f0 else f0 + p.n) (if p.kind = 3 then t0 else t0 + p.n) p.kind h4 (by split <;> omega) (by split <;> omega) (by split at c1 <;> rename_i hk <;> simp [hk] <;> omega) (by split at c2 <;> rename_i hk <;> simp [hk] <;> omega)
    rw [key]
    simp only [Option.some.injEq, Prod.mk.injEq, lastK, and_true]
    constructor
    · split at c1 <;> rename_i hk <;> simp [hk] <;> omega
    · split at c2 <;> rename_i hk <;> simp [hk] <;> omega
/-- an edit: of so many, making so many -/
def IsEd (l : List Pt) (f t : Nat) : Prop := NfG 0 l ∧ At.fromN (atomsL l) = f ∧ At.toN (atomsL l) = t ∧ f ≤ 1099511627776 ∧ t ≤ 1099511627776
theorem size_ed {l : List Pt} {f t k : Int} (h : sizeL l = some (f, t, k)) : IsEd l f.toNat t.toNat ∧ (f.toNat : Int) = f ∧ (t.toNat : Int) = t := by
  have hb := sizeL_bounds l f t k h
  obtain ⟨h1, _, h3, h4, _⟩ := size_fold l _ _ _ _ _ _ h
  refine ⟨⟨h1, ?_, ?_, ?_, ?_⟩, ?_, ?_⟩ <;> omega
theorem ed_size {l : List Pt} {f t : Nat} (h : IsEd l f t) : sizeL l = some ((f : Int), (t : Int), lastK 0 l) := by
  obtain ⟨h1, h2, h3, h4, h5⟩ := h
  have := fold_size l 0 0 0 h1 (by omega) (by omega) (by omega) (by omega)
  unfold sizeL
  rw [this, h2, h3]
  simp
end Go.Proofs.YtonabfpgdgnpnaaDoor
