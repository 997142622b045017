/- The one form: what Norm makes, by single steps; it is the only one. -/
import Derived.Test.YtonabfpgdgnpnaaDoorPrt
namespace Go.Proofs.YtonabfpgdgnpnaaDoor
set_option linter.unusedVariables false
set_option linter.unusedSimpArgs false
open Go.ChangeShapes Go.WideShapes Go.ChangeAt Go.RowKit Go.Joins Go.Deep

theorem canG_rep_k (ps : List (List UInt8)) (m n : Nat) (y : List At) (hn : n ≠ 0) : At.canG ps m (List.replicate n .k ++ y) = ps.map .p ++ List.replicate m .d ++ (List.replicate n .k ++ At.canG [] 0 y) := by
  obtain ⟨n, rfl⟩ : ∃ k, n = k + 1 := ⟨n - 1, by omega⟩
  rw [List.replicate_succ, List.cons_append]
  simp only [At.canG]
  congr 1
  rw [List.cons_append]
  congr 1
  clear hn
  induction n with
  | zero => rfl
  | succ n ih =>
    rw [List.replicate_succ, List.cons_append]
    simp only [At.canG, List.map_nil, List.nil_append, List.replicate_zero]
    rw [ih]
    rfl
theorem canG_rep_d (ps : List (List UInt8)) (n : Nat) (y : List At) : ∀ m, At.canG ps m (List.replicate n .d ++ y) = At.canG ps (m + n) y := by
  induction n with
  | zero => intro m; rfl
  | succ n ih =>
    intro m
    rw [List.replicate_succ, List.cons_append]
    simp only [At.canG]
    rw [ih]
    congr 1
    omega
theorem canG_map (cs : List (List UInt8)) (m : Nat) (y : List At) : ∀ ps, At.canG ps m (cs.map .p ++ y) = At.canG (ps ++ cs) m y := by
  induction cs with
  | nil => intro ps; simp
  | cons c cs ih =>
    intro ps
    rw [List.map_cons, List.cons_append]
    simp only [At.canG]
    rw [ih]
    simp
theorem Tx.append {s t : ByteArray} {cs ds : List (List UInt8)} (h : Tx s cs) (k : Tx t ds) {u : ByteArray} (hu : u.data.toList = s.data.toList ++ t.data.toList) : Tx u (cs ++ ds) :=
  ⟨h.cps.append k.cps, by rw [hu, h.eq, k.eq, List.flatten_append]⟩
/-- what a state holds of the steps so far -/
structure Iv (st : St) (cs : List (List UInt8)) (x : List At) : Prop where
  nf : NfG 0 st.done
  k0 : 0 ≤ st.kept
  d0 : 0 ≤ st.drops
  tx : Tx ⟨st.text.toArray⟩ cs
  pn : (cs.length : Int) = st.puts
  can : ∀ y, At.canG [] 0 (x ++ y) = atomsL st.done ++ (List.replicate st.kept.toNat .k ++ At.canG cs st.drops.toNat y)
  kp : 0 < st.kept → st.puts = 0 ∧ st.drops = 0 ∧ lastK 0 st.done ≠ 1
  kz : st.kept = 0 → (st.done = [] ∨ lastK 0 st.done = 1) ∧ (st.puts = 0 ∧ st.drops = 0 → st.done = [])
  sum : st.kept + st.drops + st.puts ≤ (x.length : Int)
theorem plusN_sum {a b : Int} (h : a + b ≤ 9223372036854775807) : plusN a b = a + b := by
  unfold plusN
  rw [if_neg (by omega)]
theorem good_keep {n : Int} (h : 0 < n) : Good ⟨1, n, ByteArray.empty⟩ := ⟨by show 1 ≤ n; omega, .inl ⟨rfl, rfl⟩⟩
theorem good_drop {n : Int} (h : 0 < n) : Good ⟨3, n, ByteArray.empty⟩ := ⟨by show 1 ≤ n; omega, .inr (.inl ⟨rfl, rfl⟩)⟩
theorem atoms_keep (n : Int) (s : ByteArray) : atoms ⟨1, n, s⟩ = List.replicate n.toNat .k := by simp [atoms]
theorem atoms_drop (n : Int) (s : ByteArray) : atoms ⟨3, n, s⟩ = List.replicate n.toNat .d := by simp [atoms]
theorem atoms_put {n : Int} {s : ByteArray} {cs : List (List UInt8)} (h : Tx s cs) : atoms ⟨2, n, s⟩ = cs.map .p := by simp [atoms, cpsOf_eq h]
theorem nf_nil_text : Tx ⟨([] : List UInt8).toArray⟩ [] := ⟨Cps.nil, rfl⟩
/-- what is kept is put behind -/
theorem Iv.kends {st : St} {cs : List (List UInt8)} {x : List At} (h : Iv st cs x) : NfG 0 (endK st).done ∧ atomsL (endK st).done = atomsL st.done ++ List.replicate st.kept.toNat .k ∧ ((endK st).done = [] ∨ lastK 0 (endK st).done = 1) := by
  unfold endK
  simp only
  by_cases hk : 0 < st.kept
  · rw [if_pos hk]
    obtain ⟨h1, h2, h3⟩ := h.kp hk
    refine ⟨h.nf.append ⟨good_keep hk, (fun e => h3 e.symm), (fun e => absurd e.1 (by show ¬ ((1 : Int) = 2); omega)), trivial⟩, ?_, .inr ?_⟩
    · rw [atomsL_append, atomsL_one, atoms_keep]
    · rw [lastK_append]; rfl
  · rw [if_neg hk]
    have h0 : st.kept = 0 := by have := h.k0; omega
    exact ⟨h.nf, by rw [h0]; simp, (h.kz h0).1⟩
/-- the parts of a change -/
theorem change_nf {cs : List (List UInt8)} {text : List UInt8} {puts drops : Int} (tx : Tx ⟨text.toArray⟩ cs) (pn : (cs.length : Int) = puts) (d0 : 0 ≤ drops) {done : List Pt} (hnf : NfG 0 done) (hl : done = [] ∨ lastK 0 done = 1) :
    NfG 0 ((if 0 < puts then done ++ [⟨2, puts, ⟨text.toArray⟩⟩] else done) ++ (if 0 < drops then [⟨3, drops, ByteArray.empty⟩] else [])) ∧
    atomsL ((if 0 < puts then done ++ [⟨2, puts, ⟨text.toArray⟩⟩] else done) ++ (if 0 < drops then [⟨3, drops, ByteArray.empty⟩] else [])) = atomsL done ++ (cs.map .p ++ List.replicate drops.toNat .d) ∧
    (0 < puts ∨ 0 < drops → lastK 0 ((if 0 < puts then done ++ [⟨2, puts, ⟨text.toArray⟩⟩] else done) ++ (if 0 < drops then [⟨3, drops, ByteArray.empty⟩] else [])) ≠ 1) := by
  have hl0 : lastK 0 done = 0 ∨ lastK 0 done = 1 := by
    rcases hl with rfl | h
    · exact .inl rfl
    · exact .inr h
  by_cases hp : 0 < puts
  · rw [if_pos hp]
    have hg : Good ⟨2, puts, ⟨text.toArray⟩⟩ := ⟨by show 1 ≤ puts; omega, .inr (.inr ⟨rfl, cs, tx, pn⟩)⟩
    have n1 : NfG 0 (done ++ [⟨2, puts, ⟨text.toArray⟩⟩]) := hnf.append ⟨hg, by show (2 : Int) ≠ _; omega, by show ¬ ((2 : Int) = 2 ∧ _ = _); omega, trivial⟩
    have e1 : lastK 0 (done ++ [⟨2, puts, ⟨text.toArray⟩⟩]) = 2 := by rw [lastK_append]; rfl
    by_cases hd : 0 < drops
    · rw [if_pos hd]
      refine ⟨n1.append ⟨good_drop hd, by rw [e1]; show (3 : Int) ≠ 2; omega, by rw [e1]; show ¬ ((3 : Int) = 2 ∧ _); omega, trivial⟩, ?_, fun _ => ?_⟩
      · rw [atomsL_append, atomsL_append, atomsL_one, atomsL_one, atoms_put tx, atoms_drop, List.append_assoc]
      · rw [lastK_append]; show (3 : Int) ≠ 1; omega
    · rw [if_neg hd]
      have : drops = 0 := by omega
      refine ⟨by rw [List.append_nil]; exact n1, ?_, fun _ => ?_⟩
      · rw [List.append_nil, atomsL_append, atomsL_one, atoms_put tx, this]; simp
      · rw [List.append_nil, e1]; omega
  · rw [if_neg hp]
    have hc : cs = [] := List.length_eq_zero_iff.1 (by omega)
    by_cases hd : 0 < drops
    · rw [if_pos hd]
      refine ⟨hnf.append ⟨good_drop hd, by show (3 : Int) ≠ _; omega, by show ¬ ((3 : Int) = 2 ∧ _); omega, trivial⟩, ?_, fun _ => ?_⟩
      · rw [atomsL_append, atomsL_one, atoms_drop, hc]; simp
      · rw [lastK_append]; show (3 : Int) ≠ 1; omega
    · rw [if_neg hd]
      have : drops = 0 := by omega
      refine ⟨by rw [List.append_nil]; exact hnf, ?_, fun h => by omega⟩
      rw [List.append_nil, hc, this]; simp
theorem rep_add (a b : Nat) (s : At) : List.replicate a s ++ List.replicate b s = List.replicate (a + b) s := by
  rw [List.replicate_append_replicate]
theorem Iv.add {st : St} {cs : List (List UInt8)} {x : List At} (h : Iv st cs x) {p : Pt} (hg : Good p) (hb : ((x ++ atoms p).length : Int) ≤ 9223372036854775807) : ∃ cs', Iv (addS st p) cs' (x ++ atoms p) := by
  have hn := hg.1
  have hlen := hg.len.1
  have hsum := h.sum
  have hk0 := h.k0
  have hd0 := h.d0
  have hp0 : 0 ≤ st.puts := by rw [← h.pn]; omega
  rw [List.length_append] at hb
  push_cast at hb
  rcases hg.cases with ⟨k, _, ea⟩ | ⟨k, _, ea⟩ | ⟨k, ds, htx, hdl, ea⟩
  · have es : addS st p = ⟨(endC st).done, st.kept + p.n, 0, 0, []⟩ := by
      unfold addS
      rw [if_pos k, plusN_sum (by omega)]
    rw [es]
    refine ⟨[], ?_⟩
    have hnn : p.n.toNat ≠ 0 := by omega
    by_cases hk : 0 < st.kept
    · obtain ⟨q1, q2, q3⟩ := h.kp hk
      have hc : cs = [] := List.length_eq_zero_iff.1 (by have := h.pn; omega)
      have ed : (endC st).done = st.done := by
        unfold endC; simp only; rw [if_neg (by omega), if_neg (by omega), List.append_nil]
      refine ⟨by rw [ed]; exact h.nf, by show 0 ≤ st.kept + p.n; omega, by show (0 : Int) ≤ 0; omega, nf_nil_text, rfl, fun y => ?_, fun _ => ⟨rfl, rfl, by rw [ed]; exact q3⟩, fun e => ?_, by rw [List.length_append]; push_cast; show st.kept + p.n + 0 + 0 ≤ _; omega⟩
      · rw [List.append_assoc, h.can, ed, ea, hc, q2]
        simp only [Int.toNat_zero]
        rw [canG_rep_k _ _ _ _ hnn]
        simp only [List.map_nil, List.replicate_zero, List.nil_append, List.append_nil]
        rw [← List.append_assoc (List.replicate _ _), rep_add]
        congr 3
        omega
      · exfalso; have : st.kept + p.n = 0 := e; omega
    · have hz : st.kept = 0 := by omega
      obtain ⟨q1, q2⟩ := h.kz hz
      obtain ⟨c1, c2, c3⟩ := change_nf h.tx h.pn h.d0 h.nf q1
      have ed : (endC st).done = (if 0 < st.puts then st.done ++ [⟨2, st.puts, ⟨st.text.toArray⟩⟩] else st.done) ++ (if 0 < st.drops then [⟨3, st.drops, ByteArray.empty⟩] else []) := rfl
      refine ⟨by rw [ed]; exact c1, by show 0 ≤ st.kept + p.n; omega, by show (0 : Int) ≤ 0; omega, nf_nil_text, rfl, fun y => ?_, fun _ => ⟨rfl, rfl, ?_⟩, fun e => ?_, by rw [List.length_append]; push_cast; show st.kept + p.n + 0 + 0 ≤ _; omega⟩
      · rw [List.append_assoc, h.can, ed, c2, ea, hz]
        simp only [Int.toNat_zero, List.replicate_zero, List.nil_append, Int.zero_add]
        rw [canG_rep_k _ _ _ _ hnn]
        simp only [List.append_assoc]
      · rw [ed]
        by_cases hpd : 0 < st.puts ∨ 0 < st.drops
        · exact c3 hpd
        · have : st.done = [] := q2 ⟨by omega, by omega⟩
          rw [this, if_neg (by omega), if_neg (by omega)]
          show (0 : Int) ≠ 1
          omega
      · exfalso; have : st.kept + p.n = 0 := e; omega
  · have es : addS st p = ⟨(endK st).done, 0, st.drops + p.n, st.puts, st.text⟩ := by
      unfold addS
      rw [if_neg (by omega), if_pos k, plusN_sum (by omega)]
    obtain ⟨c1, c2, c3⟩ := h.kends
    rw [es]
    refine ⟨cs, c1, by show (0 : Int) ≤ 0; omega, by show 0 ≤ st.drops + p.n; omega, h.tx, h.pn, fun y => ?_, fun e => by have : (0 : Int) < 0 := e; omega, fun _ => ⟨c3, fun e => by have : st.drops + p.n = 0 := e.2; omega⟩, by rw [List.length_append]; push_cast; show 0 + (st.drops + p.n) + st.puts ≤ _; omega⟩
    rw [List.append_assoc, h.can, ea, canG_rep_d, c2]
    simp only [Int.toNat_zero, List.replicate_zero, List.nil_append, List.append_assoc]
    congr 3
    omega
  · have es : addS st p = ⟨(endK st).done, 0, st.drops, st.puts + p.n, st.text ++ p.text.data.toList⟩ := by
      unfold addS
      rw [if_neg (by omega), if_neg (by omega), plusN_sum (by omega)]
    obtain ⟨c1, c2, c3⟩ := h.kends
    rw [es]
    refine ⟨cs ++ ds, c1, by show (0 : Int) ≤ 0; omega, h.d0, h.tx.append htx (by simp), by rw [List.length_append]; push_cast; show _ = st.puts + p.n; have := h.pn; omega, fun y => ?_, fun e => by have : (0 : Int) < 0 := e; omega, fun _ => ⟨c3, fun e => by have : st.puts + p.n = 0 := e.1; omega⟩, by rw [List.length_append]; push_cast; show 0 + st.drops + (st.puts + p.n) ≤ _; omega⟩
    rw [List.append_assoc, h.can, ea, canG_map, c2]
    simp only [Int.toNat_zero, List.replicate_zero, List.nil_append, List.append_assoc]
theorem iv_start : Iv ⟨[], 0, 0, 0, []⟩ [] [] :=
  ⟨trivial, by show (0 : Int) ≤ 0; omega, by show (0 : Int) ≤ 0; omega, nf_nil_text, rfl, fun y => by simp [atomsL], fun e => by have : (0 : Int) < 0 := e; omega, fun _ => ⟨.inl rfl, fun _ => rfl⟩, by simp⟩
theorem iv_all {st : St} {cs : List (List UInt8)} {x : List At} (h : Iv st cs x) : NfG 0 (allS st) ∧ atomsL (allS st) = At.can x := by
  obtain ⟨c1, c2, c3⟩ := h.kends
  obtain ⟨d1, d2, d3⟩ := change_nf h.tx h.pn h.d0 c1 c3
  have e : allS st = (if 0 < st.puts then (endK st).done ++ [⟨2, st.puts, ⟨st.text.toArray⟩⟩] else (endK st).done) ++ (if 0 < st.drops then [⟨3, st.drops, ByteArray.empty⟩] else []) := rfl
  rw [e]
  refine ⟨d1, ?_⟩
  have := h.can []
  rw [List.append_nil] at this
  rw [d2, c2]
  unfold At.can
  rw [this]
  simp [At.canG]
theorem norm_fold : ∀ (l : List Pt) (st : St) (cs : List (List UInt8)) (x : List At), Iv st cs x → ((x ++ atomsL (l.filter fitsB)).length : Int) ≤ 9223372036854775807 → ∃ cs', Iv (l.foldl (fun st p => if fitsB p then addS st p else st) st) cs' (x ++ atomsL (l.filter fitsB))
  | [], st, cs, x, h, _ => ⟨cs, by simpa [atomsL] using h⟩
  | p :: l, st, cs, x, h, hb => by
    rw [List.foldl_cons]
    cases hf : fitsB p with
    | false =>
      rw [List.filter_cons_of_neg (by simp [hf])] at hb ⊢
      exact norm_fold l st cs x h hb
    | true =>
      rw [List.filter_cons_of_pos hf, atomsL, ← List.append_assoc] at hb ⊢
      obtain ⟨cs', h'⟩ := h.add (good_of_fits hf).1 (by rw [List.length_append] at hb; push_cast at hb; omega)
      exact norm_fold l _ cs' _ h' hb
/-- what Norm makes is in its one form, and by single steps it is what was handed in -/
theorem norm_good (l : List Pt) (hb : ((atomsL (l.filter fitsB)).length : Int) ≤ 9223372036854775807) : NfG 0 (normL l) ∧ atomsL (normL l) = At.can (atomsL (l.filter fitsB)) := by
  obtain ⟨cs, h⟩ := norm_fold l _ _ _ iv_start (by simpa using hb)
  exact iv_all h
/-- parts in their one form are canonical -/
theorem nf_canG : ∀ (l : List Pt) (last : Int) (ps : List (List UInt8)) (n : Nat), NfG last l → (n ≠ 0 → last = 3) → At.canG ps n (atomsL l) = ps.map .p ++ List.replicate n .d ++ atomsL l
  | [], last, ps, n, _, _ => by simp [atomsL, At.canG]
  | p :: l, last, ps, n, h, hn => by
    obtain ⟨hg, h2, h3, h4⟩ := h
    have h1 := hg.1
    rw [atomsL]
    rcases hg.cases with ⟨k, _, ea⟩ | ⟨k, _, ea⟩ | ⟨k, ds, htx, hdl, ea⟩
    · rw [ea, canG_rep_k _ _ _ _ (by omega), nf_canG l p.kind [] 0 h4 (fun e => absurd rfl e)]
      simp
    · have hz : n = 0 := by
        by_cases e : n = 0
        · exact e
        · have := hn e; omega
      subst hz
      rw [ea, canG_rep_d, nf_canG l p.kind ps _ h4 (fun _ => k)]
      simp
    · have hz : n = 0 := by
        by_cases e : n = 0
        · exact e
        · exact absurd ⟨k, hn e⟩ h3
      subst hz
      rw [ea, canG_map, nf_canG l p.kind _ 0 h4 (fun e => absurd rfl e)]
      simp
theorem nf_can {l : List Pt} (h : NfG 0 l) : At.can (atomsL l) = atomsL l := by
  have := nf_canG l 0 [] 0 h (fun e => absurd rfl e)
  simpa [At.can] using this
/-- a row does not begin so -/
def NotK (x : List At) : Prop := ∀ y, x ≠ .k :: y
def NotD (x : List At) : Prop := ∀ y, x ≠ .d :: y
def NotP (x : List At) : Prop := ∀ c y, x ≠ .p c :: y
theorem nf_notk {l : List Pt} (h : NfG 1 l) : NotK (atomsL l) := by
  cases l with
  | nil => intro y e; cases e
  | cons p l =>
    obtain ⟨hg, h2, _⟩ := h
    have h1 := hg.1
    intro y e
    rw [atomsL] at e
    rcases hg.cases with ⟨k, _⟩ | ⟨k, _, ea⟩ | ⟨k, ds, htx, hdl, ea⟩
    · exact h2 k
    · rw [ea, show p.n.toNat = (p.n.toNat - 1) + 1 by omega, List.replicate_succ, List.cons_append] at e
      cases e
    · cases ds with
      | nil => simp at hdl; omega
      | cons d ds => rw [ea, List.map_cons, List.cons_append] at e; cases e
theorem nf_notd {l : List Pt} (h : NfG 3 l) : NotD (atomsL l) := by
  cases l with
  | nil => intro y e; cases e
  | cons p l =>
    obtain ⟨hg, h2, _⟩ := h
    have h1 := hg.1
    intro y e
    rw [atomsL] at e
    rcases hg.cases with ⟨k, _, ea⟩ | ⟨k, _, ea⟩ | ⟨k, ds, htx, hdl, ea⟩
    · rw [ea, show p.n.toNat = (p.n.toNat - 1) + 1 by omega, List.replicate_succ, List.cons_append] at e
      cases e
    · exact h2 k
    · cases ds with
      | nil => simp at hdl; omega
      | cons d ds => rw [ea, List.map_cons, List.cons_append] at e; cases e
theorem nf_notp {l : List Pt} (h : NfG 2 l) : NotP (atomsL l) := by
  cases l with
  | nil => intro c y e; cases e
  | cons p l =>
    obtain ⟨hg, h2, _⟩ := h
    have h1 := hg.1
    intro c y e
    rw [atomsL] at e
    rcases hg.cases with ⟨k, _, ea⟩ | ⟨k, _, ea⟩ | ⟨k, ds, htx, hdl, ea⟩
    · rw [ea, show p.n.toNat = (p.n.toNat - 1) + 1 by omega, List.replicate_succ, List.cons_append] at e
      cases e
    · rw [ea, show p.n.toNat = (p.n.toNat - 1) + 1 by omega, List.replicate_succ, List.cons_append] at e
      cases e
    · exact h2 k
theorem run_k : ∀ {n m : Nat} {x y : List At}, NotK x → NotK y → List.replicate n .k ++ x = List.replicate m .k ++ y → n = m ∧ x = y
  | 0, 0, x, y, _, _, h => ⟨rfl, h⟩
  | 0, m + 1, x, y, hx, _, h => by rw [List.replicate_succ, List.cons_append] at h; exact absurd h (hx _)
  | n + 1, 0, x, y, _, hy, h => by rw [List.replicate_succ, List.cons_append] at h; exact absurd h.symm (hy _)
  | n + 1, m + 1, x, y, hx, hy, h => by
    rw [List.replicate_succ, List.replicate_succ, List.cons_append, List.cons_append] at h
    obtain ⟨e1, e2⟩ := run_k hx hy (List.cons.inj h).2
    exact ⟨by omega, e2⟩
theorem run_d : ∀ {n m : Nat} {x y : List At}, NotD x → NotD y → List.replicate n .d ++ x = List.replicate m .d ++ y → n = m ∧ x = y
  | 0, 0, x, y, _, _, h => ⟨rfl, h⟩
  | 0, m + 1, x, y, hx, _, h => by rw [List.replicate_succ, List.cons_append] at h; exact absurd h (hx _)
  | n + 1, 0, x, y, _, hy, h => by rw [List.replicate_succ, List.cons_append] at h; exact absurd h.symm (hy _)
  | n + 1, m + 1, x, y, hx, hy, h => by
    rw [List.replicate_succ, List.replicate_succ, List.cons_append, List.cons_append] at h
    obtain ⟨e1, e2⟩ := run_d hx hy (List.cons.inj h).2
    exact ⟨by omega, e2⟩
theorem run_p : ∀ {cs ds : List (List UInt8)} {x y : List At}, NotP x → NotP y → cs.map .p ++ x = ds.map .p ++ y → cs = ds ∧ x = y
  | [], [], x, y, _, _, h => ⟨rfl, h⟩
  | [], d :: ds, x, y, hx, _, h => by rw [List.map_cons, List.cons_append] at h; exact absurd h (hx _ _)
  | c :: cs, [], x, y, _, hy, h => by rw [List.map_cons, List.cons_append] at h; exact absurd h.symm (hy _ _)
  | c :: cs, d :: ds, x, y, hx, hy, h => by
    rw [List.map_cons, List.map_cons, List.cons_append, List.cons_append] at h
    obtain ⟨e0, e1⟩ := List.cons.inj h
    obtain ⟨e2, e3⟩ := run_p hx hy e1
    exact ⟨by rw [At.p.inj e0, e2], e3⟩
/-- there is one form -/
theorem nf_unique : ∀ (l m : List Pt) (a b : Int), NfG a l → NfG b m → atomsL l = atomsL m → l = m
  | [], [], _, _, _, _, _ => rfl
  | [], q :: m, _, _, _, hm, h => by
    rw [atomsL, atomsL] at h
    exact absurd (List.append_eq_nil_iff.1 h.symm).1 hm.1.ne
  | p :: l, [], _, _, hl, _, h => by
    rw [atomsL, atomsL] at h
    exact absurd (List.append_eq_nil_iff.1 h).1 hl.1.ne
  | p :: l, q :: m, a, b, hl, hm, h => by
    obtain ⟨g1, _, _, n1⟩ := hl
    obtain ⟨g2, _, _, n2⟩ := hm
    have l1 := g1.1
    have l2 := g2.1
    rw [atomsL, atomsL] at h
    obtain ⟨pk, pn, pt⟩ := p
    obtain ⟨qk, qn, qt⟩ := q
    simp only at l1 l2
    have one : ∀ n : Nat, 1 ≤ n → n = (n - 1) + 1 := fun n h => by omega
    rcases g1.cases with ⟨k1, t1, e1⟩ | ⟨k1, t1, e1⟩ | ⟨k1, cs, x1, c1, e1⟩ <;> rcases g2.cases with ⟨k2, t2, e2⟩ | ⟨k2, t2, e2⟩ | ⟨k2, ds, x2, c2, e2⟩ <;> simp only at k1 k2 <;> subst k1 k2
    · rw [e1, e2] at h
      obtain ⟨r1, r2⟩ := run_k (nf_notk n1) (nf_notk n2) h
      simp only at r1 t1 t2
      obtain rfl : pn = qn := by omega
      rw [t1, t2, nf_unique l m _ _ n1 n2 r2]
    · rw [e1, e2] at h
      simp only at h
      rw [one pn.toNat (by omega), one qn.toNat (by omega), List.replicate_succ, List.replicate_succ] at h
      cases h
    · rw [e1, e2] at h
      simp only at h c2
      cases ds with
      | nil => simp at c2; omega
      | cons d ds => rw [one pn.toNat (by omega), List.replicate_succ] at h; cases h
    · rw [e1, e2] at h
      simp only at h
      rw [one pn.toNat (by omega), one qn.toNat (by omega), List.replicate_succ, List.replicate_succ] at h
      cases h
    · rw [e1, e2] at h
      obtain ⟨r1, r2⟩ := run_d (nf_notd n1) (nf_notd n2) h
      simp only at r1 t1 t2
      obtain rfl : pn = qn := by omega
      rw [t1, t2, nf_unique l m _ _ n1 n2 r2]
    · rw [e1, e2] at h
      simp only at h c2
      cases ds with
      | nil => simp at c2; omega
      | cons d ds => rw [one pn.toNat (by omega), List.replicate_succ] at h; cases h
    · rw [e1, e2] at h
      simp only at h c1
      cases cs with
      | nil => simp at c1; omega
      | cons d ds => rw [one qn.toNat (by omega), List.replicate_succ] at h; cases h
    · rw [e1, e2] at h
      simp only at h c1
      cases cs with
      | nil => simp at c1; omega
      | cons d ds => rw [one qn.toNat (by omega), List.replicate_succ] at h; cases h
    · rw [e1, e2] at h
      obtain ⟨rfl, r2⟩ := run_p (nf_notp n1) (nf_notp n2) h
      simp only at c1 c2 x1 x2
      obtain rfl : pn = qn := by omega
      have ht : pt = qt := ByteArray.ext (Array.toList_inj.1 (x1.eq.trans x2.eq.symm))
      rw [ht, nf_unique l m _ _ n1 n2 r2]
end Go.Proofs.YtonabfpgdgnpnaaDoor
