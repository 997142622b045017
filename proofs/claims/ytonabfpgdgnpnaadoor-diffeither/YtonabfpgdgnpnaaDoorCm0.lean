/- One edit behind the other, piece by piece. -/
import Derived.Test.YtonabfpgdgnpnaaDoorFof
namespace Go.Proofs.YtonabfpgdgnpnaaDoor
set_option linter.unusedVariables false
set_option linter.unusedSimpArgs false
open Go.ChangeShapes Go.WideShapes Go.ChangeAt Go.RowKit Go.Joins Go.Deep

/-- the steps of the parts that fit -/
noncomputable def fitA (l : List Pt) : List At := atomsL (l.filter fitsB)
theorem fitA_snoc (l : List Pt) (p : Pt) : fitA (l ++ [p]) = fitA l ++ (if fitsB p = true then atoms p else []) := by
  unfold fitA
  rw [List.filter_append, atomsL_append]
  congr 1
  cases h : fitsB p with
  | true => rw [List.filter_cons_of_pos h]; simp [atomsL]
  | false => rw [List.filter_cons_of_neg (by simp [h])]; simp [atomsL]
theorem fitA_good {l : List Pt} {p : Pt} (h : Fit1 p) : fitA (l ++ [p]) = fitA l ++ atoms p := by
  rw [fitA_snoc, if_pos (fits_of_good h.1 h.2)]
theorem fitA_none (l : List Pt) : fitA (l ++ [noPt]) = fitA l := by
  rw [fitA_snoc, if_neg (by decide), List.append_nil]
theorem fitA_all {l : List Pt} (h : ∀ p ∈ l, Fit1 p) : fitA l = atomsL l := by
  unfold fitA
  rw [List.filter_eq_self.2 (fun p hp => fits_of_good (h p hp).1 (h p hp).2)]
theorem comp_rep_d (n : Nat) (x y : List At) : At.comp (List.replicate n .d ++ x) y = List.replicate n .d ++ At.comp x y := by
  induction n with
  | zero => rfl
  | succ n ih => rw [List.replicate_succ, List.cons_append]; simp only [At.comp]; rw [ih]; rfl
theorem comp_map (cs : List (List UInt8)) {x : List At} (hx : NotD x) (y : List At) : At.comp x (cs.map .p ++ y) = cs.map .p ++ At.comp x y := by
  induction cs with
  | nil => rfl
  | cons c cs ih =>
    rw [List.map_cons, List.cons_append, List.cons_append]
    cases x with
    | nil => simp only [At.comp]
    | cons s x =>
      cases s with
      | d => exact absurd rfl (hx _)
      | k => simp only [At.comp]; rw [ih]
      | p e => simp only [At.comp]; rw [ih]
theorem comp_kk (n : Nat) (x y : List At) : At.comp (List.replicate n .k ++ x) (List.replicate n .k ++ y) = List.replicate n .k ++ At.comp x y := by
  induction n with
  | zero => rfl
  | succ n ih => simp only [List.replicate_succ, List.cons_append, At.comp]; rw [ih]
theorem comp_kd (n : Nat) (x y : List At) : At.comp (List.replicate n .k ++ x) (List.replicate n .d ++ y) = List.replicate n .d ++ At.comp x y := by
  induction n with
  | zero => rfl
  | succ n ih => simp only [List.replicate_succ, List.cons_append, At.comp]; rw [ih]
theorem comp_pk (cs : List (List UInt8)) (x y : List At) : At.comp (cs.map .p ++ x) (List.replicate cs.length .k ++ y) = cs.map .p ++ At.comp x y := by
  induction cs with
  | nil => rfl
  | cons c cs ih => rw [List.length_cons, List.replicate_succ, List.map_cons, List.cons_append, List.cons_append]; simp only [At.comp]; rw [ih]; rfl
theorem comp_pd (cs : List (List UInt8)) (x y : List At) : At.comp (cs.map .p ++ x) (List.replicate cs.length .d ++ y) = At.comp x y := by
  induction cs with
  | nil => rfl
  | cons c cs ih => rw [List.length_cons, List.replicate_succ, List.map_cons, List.cons_append, List.cons_append]; simp only [At.comp]; rw [ih]
theorem comp_len : ∀ (x y : List At), (At.comp x y).length ≤ x.length + y.length
  | [], y => by simp [At.comp]
  | .d :: x, y => by have := comp_len x y; simp only [At.comp, List.length_cons]; omega
  | .k :: x, [] => by have := comp_len x []; simp only [At.comp, List.length_cons]; omega
  | .p e :: x, [] => by have := comp_len x []; simp only [At.comp, List.length_cons]; omega
  | .k :: x, .p c :: y => by have := comp_len (.k :: x) y; simp only [At.comp, List.length_cons] at this ⊢; omega
  | .p e :: x, .p c :: y => by have := comp_len (.p e :: x) y; simp only [At.comp, List.length_cons] at this ⊢; omega
  | .k :: x, .k :: y => by have := comp_len x y; simp only [At.comp, List.length_cons]; omega
  | .k :: x, .d :: y => by have := comp_len x y; simp only [At.comp, List.length_cons]; omega
  | .p e :: x, .k :: y => by have := comp_len x y; simp only [At.comp, List.length_cons]; omega
  | .p e :: x, .d :: y => by have := comp_len x y; simp only [At.comp, List.length_cons]; omega
termination_by x y => x.length + y.length
theorem len_counts (x : List At) : x.length ≤ At.fromN x + At.toN x := by
  induction x with
  | nil => simp
  | cons s x ih => cases s <;> simp only [At.fromN, At.toN, List.length_cons] <;> omega
theorem Good.notd {p : Pt} (h : Good p) (hk : p.kind ≠ 3) (x : List At) : NotD (atoms p ++ x) := by
  have h1 := h.1
  intro y e
  rcases h.cases with ⟨k, _, ea⟩ | ⟨k, _⟩ | ⟨k, ds, _, hdl, ea⟩
  · rw [ea, show p.n.toNat = (p.n.toNat - 1) + 1 by omega, List.replicate_succ, List.cons_append] at e; cases e
  · exact hk k
  · cases ds with
    | nil => simp at hdl; omega
    | cons d ds => rw [ea, List.map_cons, List.cons_append] at e; cases e
/-- where a composition stands -/
structure CI (A B : List At) (lf lg L : List Pt) (tot : Nat) : Prop where
  eq : At.comp A B = fitA L ++ At.comp (atomsL lf) (atomsL lg)
  sz : At.toN (atomsL lf) = At.fromN (atomsL lg)
  len : L.length + (lf.length + lg.length) ≤ tot
  txt : sumT L ≤ 4 * (fitA L).length
theorem Fit1.txt {p : Pt} (h : Fit1 p) : p.text.size ≤ 4 * (atoms p).length := by
  have h1 := h.1.size
  have h2 := h.1.len.1
  omega
theorem CI.start (a b : List Pt) (h : At.toN (atomsL a) = At.fromN (atomsL b)) : CI (atomsL a) (atomsL b) a b [] (a.length + b.length) :=
  ⟨by simp [fitA, atomsL], h, by simp, by simp [sumT]⟩
theorem CI.drop {A B : List At} {h : Pt} {lf lg L : List Pt} {tot : Nat} (c : CI A B (h :: lf) lg L tot) (hg : Fit1 h) (hk : h.kind = 3) : CI A B lf lg (L ++ [h]) tot := by
  have ea : atoms h = List.replicate h.n.toNat .d := by unfold atoms; rw [if_neg (by omega), if_pos hk]
  refine ⟨?_, ?_, ?_, ?_⟩
  · rw [c.eq, fitA_good hg, atomsL, ea, comp_rep_d, List.append_assoc]
  · have := c.sz; rw [atomsL, At.to_app, ea, to_rep_d] at this; omega
  · have := c.len; simp at this ⊢; omega
  · rw [sumT_snoc, fitA_good hg, List.length_append]; have := c.txt; have := hg.txt; omega
theorem CI.put {A B : List At} {h : Pt} {lf lg L : List Pt} {tot : Nat} (c : CI A B lf (h :: lg) L tot) (hg : Fit1 h) (hk : h.kind = 2) (hd : NotD (atomsL lf)) : CI A B lf lg (L ++ [h]) tot := by
  obtain ⟨cs, hcs, h4, ea⟩ : ∃ cs, Tx h.text cs ∧ (cs.length : Int) = h.n ∧ atoms h = cs.map .p := by
    rcases hg.1.cases with ⟨k, _⟩ | ⟨k, _⟩ | ⟨_, cs, h3, h4, e⟩
    · omega
    · omega
    · exact ⟨cs, h3, h4, e⟩
  refine ⟨?_, ?_, ?_, ?_⟩
  · rw [c.eq, fitA_good hg, atomsL, ea, comp_map cs hd, List.append_assoc]
  · have := c.sz; rw [atomsL, At.from_app, ea, from_map] at this; omega
  · have := c.len; simp at this ⊢; omega
  · rw [sumT_snoc, fitA_good hg, List.length_append]; have := c.txt; have := hg.txt; omega
/-- by how much two heads go on -/
theorem pc_split {h p : Pt} {l l' : List Pt} {m : Nat} (c : Pc h p l l' m) : atoms h ++ atomsL l = atoms p ++ atomsL l' := by
  rw [c.at_, c.rest, ← List.append_assoc, List.take_append_drop]
theorem CI.both {A B : List At} {h1 h2 p q : Pt} {lf lg lf' lg' L : List Pt} {tot : Nat} (c : CI A B (h1 :: lf) (h2 :: lg) L tot) (hp : Pc h1 p lf lf' (min h1.n h2.n).toNat) (hq : Pc h2 q lg lg' (min h1.n h2.n).toNat) (k1 : h1.kind = 1 ∨ h1.kind = 2) (k2 : h2.kind = 1 ∨ h2.kind = 3) (n1 : 1 ≤ h1.n) (n2 : 1 ≤ h2.n) :
    CI A B lf' lg' (L ++ [rowP p q]) tot ∧ lf'.length + lg'.length < (h1 :: lf).length + (h2 :: lg).length := by
  obtain ⟨m, hm⟩ : ∃ m, (min h1.n h2.n).toNat = m := ⟨_, rfl⟩
  rw [hm] at hp hq
  have hlen : lf'.length + lg'.length < (h1 :: lf).length + (h2 :: lg).length := by
    have a1 := hp.len
    have a2 := hq.len
    simp only [List.length_cons]
    by_cases hle : h1.n ≤ h2.n
    · have := hp.all (by omega); omega
    · have := hq.all (by omega); omega
  have hlp := hp.good.1.len.1
  have hlq := hq.good.1.len.1
  have hnp := hp.num
  have hnq := hq.num
  have e := c.eq
  have hs := c.sz
  rw [atomsL, atomsL, pc_split hp, pc_split hq] at e hs
  refine ⟨?_, hlen⟩
  have hl := c.len
  have ht := c.txt
  rw [At.to_app, At.from_app] at hs
  have cp := hp.good.1.counts
  have cq := hq.good.1.counts
  unfold rowP
  rcases hq.good.1.cases with ⟨kq, _, eq⟩ | ⟨kq, _, eq⟩ | ⟨kq, _⟩
  · rw [if_pos kq]
    have hnum : q.n.toNat = m := by omega
    rw [hnum] at eq
    refine ⟨?_, ?_, ?_, ?_⟩
    · rw [e, fitA_good hp.good, eq, List.append_assoc]
      congr 1
      rcases hp.good.1.cases with ⟨kp, _, ep⟩ | ⟨kp, _⟩ | ⟨kp, cs, _, hcl, ep⟩
      · rw [ep, show p.n.toNat = m by omega, comp_kk]
      · have := hp.kind; omega
      · rw [ep, ← show cs.length = m by omega, comp_pk]
    · have q1 := cp.2.1; have q2 := cq.1
      rw [kq] at q2
      have := hp.kind
      rw [if_neg (by omega)] at q1
      simp at q2
      omega
    · simp only [List.length_append, List.length_singleton]; omega
    · rw [sumT_snoc, fitA_good hp.good, List.length_append]; have := hp.good.txt; omega
  · rw [if_neg (by omega)]
    have hnum : q.n.toNat = m := by omega
    rw [hnum] at eq
    rcases hp.good.1.cases with ⟨kp, _, ep⟩ | ⟨kp, _⟩ | ⟨kp, cs, _, hcl, ep⟩
    · rw [if_pos kp]
      refine ⟨?_, ?_, ?_, ?_⟩
      · rw [e, fitA_good hq.good, eq, List.append_assoc]
        congr 1
        rw [ep, show p.n.toNat = m by omega, comp_kd]
      · have q1 := cp.2.1; have q2 := cq.1
        rw [kq] at q2
        rw [kp] at q1
        simp at q2 q1
        omega
      · simp only [List.length_append, List.length_singleton]; omega
      · rw [sumT_snoc, fitA_good hq.good, List.length_append]; have := hq.good.txt; omega
    · have := hp.kind; omega
    · rw [if_neg (by omega)]
      refine ⟨?_, ?_, ?_, ?_⟩
      · rw [e, fitA_none, ep, eq, ← show cs.length = m by omega, comp_pd]
      · have q1 := cp.2.1; have q2 := cq.1
        rw [kq] at q2
        rw [kp] at q1
        simp at q2 q1
        omega
      · simp only [List.length_append, List.length_singleton]; omega
      · rw [sumT_snoc, fitA_none]; have : noPt.text.size = 0 := rfl; omega
  · have := hq.kind; omega
theorem atomsL_nil {l : List Pt} (h : ∀ p ∈ l, Fit1 p) (e : atomsL l = []) : l = [] := by
  cases l with
  | nil => rfl
  | cons p l =>
    rw [atomsL] at e
    exact absurd (List.append_eq_nil_iff.1 e).1 (h p (List.mem_cons_self ..)).1.ne
/-- where both come to their end -/
theorem CI.ends {A B : List At} {L : List Pt} {tot : Nat} (c : CI A B [] [] L tot) : fitA L = At.comp A B := by
  rw [c.eq]; simp [atomsL, At.comp]
end Go.Proofs.YtonabfpgdgnpnaaDoor
