/- A part behind others, as one with the last one if that is of its kind. -/
import Derived.Test.YtonabfpgdgnpnaaDoorPrn
namespace Go.Proofs.YtonabfpgdgnpnaaDoor
set_option linter.unusedVariables false
set_option linter.unusedSimpArgs false
open Go.ChangeShapes Go.WideShapes Go.ChangeAt Go.RowKit Go.Joins Go.Deep

theorem snoc_or (l : List Pt) : l = [] ∨ ∃ L q, l = L ++ [q] := by
  rcases List.eq_nil_or_concat l with h | ⟨L, q, h⟩
  · exact .inl h
  · exact .inr ⟨L, q, by rw [h, List.concat_eq_append]⟩
def join2 (q p : Pt) : Pt := ⟨q.kind, q.n + p.n, q.text ++ p.text⟩
def oneL (l : List Pt) (p : Pt) : List Pt := match l.getLast? with
  | some q => if q.kind = p.kind then l.dropLast ++ [join2 q p] else l ++ [p]
  | none => l ++ [p]
theorem oneL_nil (p : Pt) : oneL [] p = [p] := rfl
theorem oneL_snoc (l : List Pt) (q p : Pt) : oneL (l ++ [q]) p = if q.kind = p.kind then l ++ [join2 q p] else l ++ [q] ++ [p] := by
  unfold oneL
  simp
theorem lastK_snoc (l : List Pt) (q : Pt) (a : Int) : lastK a (l ++ [q]) = q.kind := by rw [lastK_append]; rfl
theorem nf_app {l m : List Pt} : ∀ {a : Int}, NfG a (l ++ m) → NfG a l ∧ NfG (lastK a l) m := by
  induction l with
  | nil => intro a h; exact ⟨trivial, h⟩
  | cons p l ih => intro a h; obtain ⟨h1, h2, h3, h4⟩ := h; obtain ⟨i1, i2⟩ := ih h4; exact ⟨⟨h1, h2, h3, i1⟩, i2⟩
theorem app_data (s t : ByteArray) : (s ++ t).data.toList = s.data.toList ++ t.data.toList := by simp
theorem good_join {q p : Pt} (hq : Good q) (hp : Good p) (hk : q.kind = p.kind) : Good (join2 q p) ∧ atoms (join2 q p) = atoms q ++ atoms p := by
  have q1 := hq.1
  have p1 := hp.1
  unfold join2
  rcases hq.cases with ⟨k1, t1, a1⟩ | ⟨k1, t1, a1⟩ | ⟨k1, cs, x1, n1, a1⟩
  · rcases hp.cases with ⟨k2, t2, a2⟩ | ⟨k2, t2, a2⟩ | ⟨k2, ds, x2, n2, a2⟩
    · have et : q.text ++ p.text = ByteArray.empty := by rw [t1, t2]; rfl
      rw [et, k1]
      refine ⟨good_keep (by omega), ?_⟩
      rw [atoms_keep, a1, a2, rep_add]
      congr 1
      omega
    · omega
    · omega
  · rcases hp.cases with ⟨k2, t2, a2⟩ | ⟨k2, t2, a2⟩ | ⟨k2, ds, x2, n2, a2⟩
    · omega
    · have et : q.text ++ p.text = ByteArray.empty := by rw [t1, t2]; rfl
      rw [et, k1]
      refine ⟨good_drop (by omega), ?_⟩
      rw [atoms_drop, a1, a2, rep_add]
      congr 1
      omega
    · omega
  · rcases hp.cases with ⟨k2, t2, a2⟩ | ⟨k2, t2, a2⟩ | ⟨k2, ds, x2, n2, a2⟩
    · omega
    · omega
    · have ht := Tx.append x1 x2 (app_data q.text p.text)
      rw [k1]
      refine ⟨⟨by show 1 ≤ q.n + p.n; omega, .inr (.inr ⟨rfl, cs ++ ds, ht, by simp; omega⟩)⟩, ?_⟩
      rw [atoms_put ht, a1, a2, List.map_append]
theorem oneL_nf {l : List Pt} {p : Pt} (h : NfG 0 l) (hp : Good p) (hk : ¬ (p.kind = 2 ∧ lastK 0 l = 3)) : NfG 0 (oneL l p) ∧ atomsL (oneL l p) = atomsL l ++ atoms p ∧ lastK 0 (oneL l p) = p.kind := by
  have kk : p.kind = 1 ∨ p.kind = 3 ∨ p.kind = 2 := by
    rcases hp.cases with h | h | h
    · exact .inl h.1
    · exact .inr (.inl h.1)
    · exact .inr (.inr h.1)
  rcases snoc_or l with rfl | ⟨l, q, rfl⟩
  · rw [oneL_nil]
    exact ⟨⟨hp, by omega, by omega, trivial⟩, by rw [atomsL_one]; rfl, rfl⟩
  · obtain ⟨h1, h2, h3, h4, _⟩ := nf_app h
    rw [lastK_snoc] at hk
    rw [oneL_snoc]
    by_cases e : q.kind = p.kind
    · rw [if_pos e]
      obtain ⟨g1, g2⟩ := good_join h2 hp e
      refine ⟨h1.append ⟨g1, h3, h4, trivial⟩, ?_, ?_⟩
      · rw [atomsL_append, atomsL_append, atomsL_one, atomsL_one, g2, List.append_assoc]
      · rw [lastK_snoc]; exact e
    · rw [if_neg e]
      refine ⟨h.append ⟨hp, ?_, ?_, trivial⟩, ?_, ?_⟩
      · rw [lastK_snoc]; exact fun h => e h.symm
      · rw [lastK_snoc]; exact hk
      · rw [atomsL_append, atomsL_one]
      · rw [lastK_snoc]
theorem oneL_len (l : List Pt) (p : Pt) : (oneL l p).length ≤ l.length + 1 := by
  rcases snoc_or l with rfl | ⟨l, q, rfl⟩
  · simp [oneL_nil]
  · rw [oneL_snoc]; split <;> simp
theorem oneL_sum (l : List Pt) (p : Pt) : sumT (oneL l p) = sumT l + p.text.size := by
  rcases snoc_or l with rfl | ⟨l, q, rfl⟩
  · simp [oneL_nil, sumT]
  · rw [oneL_snoc]
    split
    · simp only [sumT_snoc, join2, ByteArray.size_append]; omega
    · simp only [sumT_snoc]
theorem nf_num {l : List Pt} {a : Int} (h : NfG a l) : ∀ p ∈ l, p.n ≤ ((atomsL l).length : Int) := by
  intro p hp
  have hg := h.good p hp
  have h2 := hg.len.1
  have h3 : (atoms p).length ≤ (atomsL l).length := by
    clear h2 h hg
    induction l with
    | nil => cases hp
    | cons q l ih =>
      rw [atomsL, List.length_append]
      rcases List.mem_cons.1 hp with rfl | hp
      · omega
      · have := ih hp; omega
  omega
theorem canG_lenC : ∀ (x : List At) (ps : List (List UInt8)) (n : Nat), (At.canG ps n x).length = ps.length + n + x.length
  | [], ps, n => by simp [At.canG]
  | .k :: x, ps, n => by simp only [At.canG, List.length_append, List.length_map, List.length_replicate, List.length_cons]; rw [canG_lenC x [] 0]; simp
  | .d :: x, ps, n => by simp only [At.canG, List.length_cons]; rw [canG_lenC x ps (n + 1)]; omega
  | .p c :: x, ps, n => by simp only [At.canG, List.length_cons]; rw [canG_lenC x (ps ++ [c]) n]; simp; omega
theorem can_lenC (x : List At) : (At.can x).length = x.length := by unfold At.can; rw [canG_lenC]; simp
theorem At.Sw.right {x y : List At} (h : At.Sw x y) (l : List At) : At.Sw (x ++ l) (y ++ l) := by
  induction h with
  | refl x => exact .refl _
  | cons s _ ih => exact ih.cons s
  | swap c x => exact .swap c _
  | symm _ ih => exact ih.symm
  | trans _ _ i1 i2 => exact i1.trans i2
theorem At.Sw.dp (n : Nat) (y : List At) : ∀ cs : List (List UInt8), At.Sw (List.replicate n .d ++ (cs.map .p ++ y)) (cs.map .p ++ (List.replicate n .d ++ y))
  | [] => .refl _
  | c :: cs => (At.Sw.reps n c _).trans ((At.Sw.dp n y cs).cons _)
/-- the document's Norm, part by part -/
def rnStep (out : List Pt) (p : Pt) : List Pt := if fitsB p then (match out.getLast? with
  | some d => if p.kind = 2 ∧ d.kind = 3 then oneL (oneL out.dropLast p) d else oneL out p
  | none => oneL out p) else out
def rnormL (l : List Pt) : List Pt := l.foldl rnStep []
theorem rnStep_nil (p : Pt) (h : fitsB p = true) : rnStep [] p = oneL [] p := by unfold rnStep; rw [if_pos h]; rfl
theorem rnStep_no (l : List Pt) (p : Pt) (h : fitsB p = false) : rnStep l p = l := by unfold rnStep; rw [h]; rfl
theorem rnStep_snoc (l : List Pt) (q p : Pt) (h : fitsB p = true) : rnStep (l ++ [q]) p = if p.kind = 2 ∧ q.kind = 3 then oneL (oneL l p) q else oneL (l ++ [q]) p := by
  unfold rnStep
  rw [if_pos h]
  simp
theorem rnStep_len (l : List Pt) (p : Pt) : (rnStep l p).length ≤ l.length + 1 := by
  cases h : fitsB p with
  | false => rw [rnStep_no _ _ h]; omega
  | true =>
    rcases snoc_or l with rfl | ⟨l, q, rfl⟩
    · rw [rnStep_nil _ h]; exact oneL_len _ _
    · rw [rnStep_snoc _ _ _ h]
      split
      · have h1 := oneL_len l p
        have h2 := oneL_len (oneL l p) q
        simp only [List.length_append, List.length_cons, List.length_nil] at *
        omega
      · exact oneL_len _ _
theorem rnStep_sum (l : List Pt) (p : Pt) : sumT (rnStep l p) ≤ sumT l + p.text.size := by
  cases h : fitsB p with
  | false => rw [rnStep_no _ _ h]; omega
  | true =>
    rcases snoc_or l with rfl | ⟨l, q, rfl⟩
    · rw [rnStep_nil _ h, oneL_sum]; exact Nat.le_refl _
    · rw [rnStep_snoc _ _ _ h]
      split
      · rw [oneL_sum, oneL_sum, sumT_snoc]; omega
      · rw [oneL_sum]; exact Nat.le_refl _
theorem rn_step {l : List Pt} {x : List At} {p : Pt} (h1 : NfG 0 l) (h2 : atomsL l = At.can x) (hp : Good p) (hf : fitsB p = true) : NfG 0 (rnStep l p) ∧ atomsL (rnStep l p) = At.can (x ++ atoms p) := by
  have base : At.Sw (atomsL l ++ atoms p) (x ++ atoms p) := by rw [h2]; exact (At.can_sw x).symm.right _
  rcases snoc_or l with rfl | ⟨l, q, rfl⟩
  · rw [rnStep_nil _ hf]
    obtain ⟨a1, a2, _⟩ := oneL_nf h1 hp (by simp [lastK])
    refine ⟨a1, ?_⟩
    rw [← nf_can a1, a2]
    exact At.can_of_sw base
  · rw [rnStep_snoc _ _ _ hf]
    by_cases e : p.kind = 2 ∧ q.kind = 3
    · rw [if_pos e]
      obtain ⟨b1, b2, b3, b4, _⟩ := nf_app h1
      obtain ⟨a1, a2, a3⟩ := oneL_nf b1 hp (by intro h; have := h.2; omega)
      obtain ⟨c1, c2, _⟩ := oneL_nf a1 b2 (by omega)
      refine ⟨c1, ?_⟩
      rw [← nf_can c1, c2, a2]
      refine At.can_of_sw (At.Sw.trans ?_ base)
      rw [atomsL_append, atomsL_one, List.append_assoc, List.append_assoc]
      refine At.Sw.app _ ?_
      rcases b2.cases with ⟨k, _⟩ | ⟨k, _, ed⟩ | ⟨k, _⟩
      · omega
      · rcases hp.cases with ⟨k2, _⟩ | ⟨k2, _⟩ | ⟨k2, cs, _, _, ep⟩
        · omega
        · omega
        · rw [ed, ep]
          have := At.Sw.dp q.n.toNat [] cs
          simpa using this.symm
      · omega
    · rw [if_neg e]
      obtain ⟨a1, a2, _⟩ := oneL_nf h1 hp (by rw [lastK_snoc]; exact e)
      refine ⟨a1, ?_⟩
      rw [← nf_can a1, a2]
      exact At.can_of_sw base
theorem rn_fold : ∀ (l out : List Pt) (x : List At), NfG 0 out → atomsL out = At.can x → NfG 0 (l.foldl rnStep out) ∧ atomsL (l.foldl rnStep out) = At.can (x ++ atomsL (l.filter fitsB))
  | [], out, x, h1, h2 => by simpa [atomsL] using ⟨h1, h2⟩
  | p :: l, out, x, h1, h2 => by
    rw [List.foldl_cons]
    cases hf : fitsB p with
    | false =>
      rw [rnStep_no _ _ hf, List.filter_cons_of_neg (by simp [hf])]
      exact rn_fold l out x h1 h2
    | true =>
      obtain ⟨a1, a2⟩ := rn_step h1 h2 (good_of_fits hf).1 hf
      have := rn_fold l _ _ a1 a2
      rw [List.filter_cons_of_pos (by simp [hf])]
      simpa [atomsL, List.append_assoc] using this
theorem rnorm_good (l : List Pt) : NfG 0 (rnormL l) ∧ atomsL (rnormL l) = At.can (atomsL (l.filter fitsB)) := by
  have := rn_fold l [] [] trivial rfl
  unfold rnormL
  simpa using this
theorem fit_len : ∀ l : List Pt, ((atomsL (l.filter fitsB)).length : Int) ≤ 1099511627776 * (l.length : Int)
  | [] => by simp [atomsL]
  | p :: l => by
    have ih := fit_len l
    cases hf : fitsB p with
    | false => rw [List.filter_cons_of_neg (by simp [hf])]; simp only [List.length_cons]; push_cast; omega
    | true =>
      rw [List.filter_cons_of_pos (by simp [hf]), atomsL, List.length_append]
      obtain ⟨g, gn⟩ := good_of_fits hf
      have := g.len.1
      simp only [List.length_cons]
      push_cast
      omega
theorem rnorm_eq (l : List Pt) (h : l.length ≤ 4194304) : rnormL l = normL l := by
  obtain ⟨a1, a2⟩ := rnorm_good l
  have hl := fit_len l
  obtain ⟨b1, b2⟩ := norm_good l (by omega)
  exact nf_unique _ _ _ _ a1 b1 (by rw [a2, b2])
theorem rnormL_take {l : List Pt} {i : Nat} {p : Pt} (h : l[i]? = some p) : rnormL (l.take (i + 1)) = rnStep (rnormL (l.take i)) p := by
  unfold rnormL
  rw [List.take_add_one, h, List.foldl_append]
  rfl
theorem rnorm_len (l : List Pt) (i : Nat) : (rnormL (l.take i)).length ≤ i := by
  induction i with
  | zero => simp [rnormL]
  | succ i ih =>
    cases hp : l[i]? with
    | none =>
      have hi : l.length ≤ i := by simpa using hp
      rw [List.take_of_length_le (by omega)]
      rw [List.take_of_length_le (by omega)] at ih
      omega
    | some p => rw [rnormL_take hp]; have := rnStep_len (rnormL (l.take i)) p; omega
theorem rnorm_sum (l : List Pt) (i : Nat) : sumT (rnormL (l.take i)) ≤ sumT (l.take i) := by
  induction i with
  | zero => simp [rnormL]
  | succ i ih =>
    cases hp : l[i]? with
    | none =>
      have hi : l.length ≤ i := by simpa using hp
      rw [List.take_of_length_le (by omega)]
      rw [List.take_of_length_le (by omega)] at ih
      exact ih
    | some p => rw [rnormL_take hp, sumT_take hp]; have := rnStep_sum (rnormL (l.take i)) p; omega
/-- numbers of the parts of a form that was reached stay small -/
theorem rnorm_num (l : List Pt) (i : Nat) (hi : i ≤ 4194304) : ∀ p ∈ rnormL (l.take i), 1 ≤ p.n ∧ p.n ≤ 4611686018427387904 := by
  intro p hp
  obtain ⟨a1, a2⟩ := rnorm_good (l.take i)
  have h1 := nf_num a1 p hp
  have h2 := (a1.good p hp).1
  rw [a2, can_lenC] at h1
  have h3 := fit_len (l.take i)
  have h4 : (l.take i).length ≤ i := by rw [List.length_take]; omega
  omega
end Go.Proofs.YtonabfpgdgnpnaaDoor
