/- Two edits, each behind the other, piece by piece. -/
import Derived.Test.YtonabfpgdgnpnaaDoorCm0
namespace Go.Proofs.YtonabfpgdgnpnaaDoor
set_option linter.unusedVariables false
set_option linter.unusedSimpArgs false
open Go.ChangeShapes Go.WideShapes Go.ChangeAt Go.RowKit Go.Joins Go.Deep

theorem one_map (cs : List (List UInt8)) (x y : List At) : At.one (cs.map .p ++ x) y = cs.map .p ++ At.one x y := by
  induction cs with
  | nil => rfl
  | cons c cs ih => simp only [List.map_cons, List.cons_append, At.one]; rw [ih]
theorem two_map (cs : List (List UInt8)) (x y : List At) : At.two (cs.map .p ++ x) y = List.replicate cs.length .k ++ At.two x y := by
  induction cs with
  | nil => rfl
  | cons c cs ih => simp only [List.map_cons, List.cons_append, At.two, List.length_cons, List.replicate_succ]; rw [ih]
theorem one_map2 (cs : List (List UInt8)) {x : List At} (hx : NotP x) (y : List At) : At.one x (cs.map .p ++ y) = List.replicate cs.length .k ++ At.one x y := by
  induction cs with
  | nil => rfl
  | cons c cs ih =>
    simp only [List.map_cons, List.cons_append, List.length_cons, List.replicate_succ]
    cases x with
    | nil => simp only [At.one]; rw [ih]
    | cons s x =>
      cases s with
      | p e => exact absurd rfl (hx _ _)
      | k => simp only [At.one]; rw [ih]
      | d => simp only [At.one]; rw [ih]
theorem two_map2 (cs : List (List UInt8)) {x : List At} (hx : NotP x) (y : List At) : At.two x (cs.map .p ++ y) = cs.map .p ++ At.two x y := by
  induction cs with
  | nil => rfl
  | cons c cs ih =>
    simp only [List.map_cons, List.cons_append]
    cases x with
    | nil => simp only [At.two]; rw [ih]
    | cons s x =>
      cases s with
      | p e => exact absurd rfl (hx _ _)
      | k => simp only [At.two]; rw [ih]
      | d => simp only [At.two]; rw [ih]
theorem one_kk (n : Nat) (x y : List At) : At.one (List.replicate n .k ++ x) (List.replicate n .k ++ y) = List.replicate n .k ++ At.one x y := by
  induction n with
  | zero => rfl
  | succ n ih => simp only [List.replicate_succ, List.cons_append, At.one]; rw [ih]
theorem two_kk (n : Nat) (x y : List At) : At.two (List.replicate n .k ++ x) (List.replicate n .k ++ y) = List.replicate n .k ++ At.two x y := by
  induction n with
  | zero => rfl
  | succ n ih => simp only [List.replicate_succ, List.cons_append, At.two]; rw [ih]
theorem one_kd (n : Nat) (x y : List At) : At.one (List.replicate n .k ++ x) (List.replicate n .d ++ y) = At.one x y := by
  induction n with
  | zero => rfl
  | succ n ih => simp only [List.replicate_succ, List.cons_append, At.one]; rw [ih]
theorem two_kd (n : Nat) (x y : List At) : At.two (List.replicate n .k ++ x) (List.replicate n .d ++ y) = List.replicate n .d ++ At.two x y := by
  induction n with
  | zero => rfl
  | succ n ih => simp only [List.replicate_succ, List.cons_append, At.two]; rw [ih]
theorem one_dk (n : Nat) (x y : List At) : At.one (List.replicate n .d ++ x) (List.replicate n .k ++ y) = List.replicate n .d ++ At.one x y := by
  induction n with
  | zero => rfl
  | succ n ih => simp only [List.replicate_succ, List.cons_append, At.one]; rw [ih]
theorem two_dk (n : Nat) (x y : List At) : At.two (List.replicate n .d ++ x) (List.replicate n .k ++ y) = At.two x y := by
  induction n with
  | zero => rfl
  | succ n ih => simp only [List.replicate_succ, List.cons_append, At.two]; rw [ih]
theorem one_dd (n : Nat) (x y : List At) : At.one (List.replicate n .d ++ x) (List.replicate n .d ++ y) = At.one x y := by
  induction n with
  | zero => rfl
  | succ n ih => simp only [List.replicate_succ, List.cons_append, At.one]; rw [ih]
theorem two_dd (n : Nat) (x y : List At) : At.two (List.replicate n .d ++ x) (List.replicate n .d ++ y) = At.two x y := by
  induction n with
  | zero => rfl
  | succ n ih => simp only [List.replicate_succ, List.cons_append, At.two]; rw [ih]
theorem tr_len : ∀ (x y : List At), (At.one x y).length ≤ x.length + y.length ∧ (At.two x y).length ≤ x.length + y.length
  | .p c :: x, y => by have := tr_len x y; simp only [At.one, At.two, List.length_cons]; omega
  | [], [] => by simp [At.one, At.two]
  | [], .p c :: y => by have := tr_len [] y; simp only [At.one, At.two, List.length_cons, List.length_nil] at this ⊢; omega
  | [], .k :: y => by have := tr_len [] y; simp only [At.one, At.two, List.length_cons, List.length_nil] at this ⊢; omega
  | [], .d :: y => by have := tr_len [] y; simp only [At.one, At.two, List.length_cons, List.length_nil] at this ⊢; omega
  | .k :: x, [] => by have := tr_len x []; simp only [At.one, At.two, List.length_cons, List.length_nil] at this ⊢; omega
  | .d :: x, [] => by have := tr_len x []; simp only [At.one, At.two, List.length_cons, List.length_nil] at this ⊢; omega
  | .k :: x, .p c :: y => by have := tr_len (.k :: x) y; simp only [At.one, At.two, List.length_cons] at this ⊢; omega
  | .d :: x, .p c :: y => by have := tr_len (.d :: x) y; simp only [At.one, At.two, List.length_cons] at this ⊢; omega
  | .k :: x, .k :: y => by have := tr_len x y; simp only [At.one, At.two, List.length_cons] at this ⊢; omega
  | .k :: x, .d :: y => by have := tr_len x y; simp only [At.one, At.two, List.length_cons] at this ⊢; omega
  | .d :: x, .k :: y => by have := tr_len x y; simp only [At.one, At.two, List.length_cons] at this ⊢; omega
  | .d :: x, .d :: y => by have := tr_len x y; simp only [At.one, At.two, List.length_cons] at this ⊢; omega
termination_by x y => x.length + y.length
theorem Good.notp {p : Pt} (h : Good p) (hk : p.kind ≠ 2) (x : List At) : NotP (atoms p ++ x) := by
  have h1 := h.1
  intro c y e
  rcases h.cases with ⟨k, _, ea⟩ | ⟨k, _, ea⟩ | ⟨k, _⟩
  · rw [ea, show p.n.toNat = (p.n.toNat - 1) + 1 by omega, List.replicate_succ, List.cons_append] at e; cases e
  · rw [ea, show p.n.toNat = (p.n.toNat - 1) + 1 by omega, List.replicate_succ, List.cons_append] at e; cases e
  · exact hk k
structure TI (A B : List At) (lf lg L1 L2 : List Pt) (tot : Nat) : Prop where
  e1 : At.one A B = fitA L1 ++ At.one (atomsL lf) (atomsL lg)
  e2 : At.two A B = fitA L2 ++ At.two (atomsL lf) (atomsL lg)
  sz : At.fromN (atomsL lf) = At.fromN (atomsL lg)
  len1 : L1.length + (lf.length + lg.length) ≤ tot
  len2 : L2.length + (lf.length + lg.length) ≤ tot
  txt1 : sumT L1 ≤ 4 * (fitA L1).length
  txt2 : sumT L2 ≤ 4 * (fitA L2).length
theorem TI.start (a b : List Pt) (h : At.fromN (atomsL a) = At.fromN (atomsL b)) : TI (atomsL a) (atomsL b) a b [] [] (a.length + b.length) :=
  ⟨by simp [fitA, atomsL], by simp [fitA, atomsL], h, by simp, by simp, by simp [sumT], by simp [sumT]⟩
theorem fit_keep {n : Int} (h1 : 1 ≤ n) (h2 : n ≤ 1099511627776) : Fit1 ⟨1, n, ByteArray.empty⟩ := ⟨good_keep (by omega), h2⟩
theorem txt_good {L : List Pt} {p : Pt} (h : Fit1 p) (ht : sumT L ≤ 4 * (fitA L).length) : sumT (L ++ [p]) ≤ 4 * (fitA (L ++ [p])).length := by
  rw [sumT_snoc, fitA_good h, List.length_append]; have := h.txt; omega
theorem txt_none {L : List Pt} (ht : sumT L ≤ 4 * (fitA L).length) : sumT (L ++ [noPt]) ≤ 4 * (fitA (L ++ [noPt])).length := by
  rw [sumT_snoc, fitA_none]; have : noPt.text.size = 0 := rfl; omega
theorem fit_put {h : Pt} (hg : Fit1 h) (hk : h.kind = 2) : ∃ cs : List (List UInt8), (cs.length : Int) = h.n ∧ atoms h = cs.map .p ∧ atoms ⟨1, h.n, ByteArray.empty⟩ = List.replicate cs.length .k := by
  rcases hg.1.cases with ⟨k, _⟩ | ⟨k, _⟩ | ⟨_, cs, h3, h4, e⟩
  · omega
  · omega
  · exact ⟨cs, h4, e, by rw [atoms_keep]; congr 1; omega⟩
theorem TI.putf {A B : List At} {h : Pt} {lf lg L1 L2 : List Pt} {tot : Nat} (c : TI A B (h :: lf) lg L1 L2 tot) (hg : Fit1 h) (hk : h.kind = 2) : TI A B lf lg (L1 ++ [h]) (L2 ++ [⟨1, h.n, ByteArray.empty⟩]) tot := by
  obtain ⟨cs, h4, ea, eb⟩ := fit_put hg hk
  have hf := fit_keep hg.1.1 hg.2
  refine ⟨?_, ?_, ?_, ?_, ?_, txt_good hg c.txt1, txt_good hf c.txt2⟩
  · rw [c.e1, fitA_good hg, atomsL, ea, one_map, List.append_assoc]
  · rw [c.e2, fitA_good hf, atomsL, ea, two_map, eb, List.append_assoc]
  · have := c.sz; rw [atomsL, At.from_app, ea, from_map] at this; omega
  · have := c.len1; simp at this ⊢; omega
  · have := c.len2; simp at this ⊢; omega
theorem TI.putg {A B : List At} {h : Pt} {lf lg L1 L2 : List Pt} {tot : Nat} (c : TI A B lf (h :: lg) L1 L2 tot) (hg : Fit1 h) (hk : h.kind = 2) (hn : NotP (atomsL lf)) : TI A B lf lg (L1 ++ [⟨1, h.n, ByteArray.empty⟩]) (L2 ++ [h]) tot := by
  obtain ⟨cs, h4, ea, eb⟩ := fit_put hg hk
  have hf := fit_keep hg.1.1 hg.2
  refine ⟨?_, ?_, ?_, ?_, ?_, txt_good hf c.txt1, txt_good hg c.txt2⟩
  · rw [c.e1, fitA_good hf, atomsL, ea, one_map2 cs hn, eb, List.append_assoc]
  · rw [c.e2, fitA_good hg, atomsL, ea, two_map2 cs hn, List.append_assoc]
  · have := c.sz; rw [atomsL, At.from_app, ea, from_map] at this; omega
  · have := c.len1; simp at this ⊢; omega
  · have := c.len2; simp at this ⊢; omega
theorem TI.both {A B : List At} {h1 h2 p q : Pt} {lf lg lf' lg' L1 L2 : List Pt} {tot : Nat} (c : TI A B (h1 :: lf) (h2 :: lg) L1 L2 tot) (hp : Pc h1 p lf lf' (min h1.n h2.n).toNat) (hq : Pc h2 q lg lg' (min h1.n h2.n).toNat) (k1 : h1.kind = 1 ∨ h1.kind = 3) (k2 : h2.kind = 1 ∨ h2.kind = 3) (n1 : 1 ≤ h1.n) (n2 : 1 ≤ h2.n) :
    TI A B lf' lg' (L1 ++ [if q.kind = 3 then noPt else p]) (L2 ++ [if p.kind = 3 then noPt else q]) tot ∧ lf'.length + lg'.length < (h1 :: lf).length + (h2 :: lg).length := by
  obtain ⟨m, hm⟩ : ∃ m, (min h1.n h2.n).toNat = m := ⟨_, rfl⟩
  rw [hm] at hp hq
  have hlen : lf'.length + lg'.length < (h1 :: lf).length + (h2 :: lg).length := by
    have a1 := hp.len
    have a2 := hq.len
    simp only [List.length_cons]
    by_cases hle : h1.n ≤ h2.n
    · have := hp.all (by omega); omega
    · have := hq.all (by omega); omega
  have hnp := hp.num
  have hnq := hq.num
  have hkp := hp.kind
  have hkq := hq.kind
  have e1 := c.e1
  have e2 := c.e2
  have hs := c.sz
  rw [atomsL, atomsL, pc_split hp, pc_split hq] at e1 e2 hs
  refine ⟨?_, hlen⟩
  have hl1 := c.len1
  have hl2 := c.len2
  rw [At.from_app, At.from_app] at hs
  have cp := hp.good.1.counts.1
  have cq := hq.good.1.counts.1
  rw [if_neg (by omega)] at cp cq
  have hsz : At.fromN (atomsL lf') = At.fromN (atomsL lg') := by omega
  have hn1 : p.n.toNat = m := by omega
  have hn2 : q.n.toNat = m := by omega
  rcases hp.good.1.cases with ⟨kp, _, ep⟩ | ⟨kp, _, ep⟩ | ⟨kp, _⟩
  · rw [hn1] at ep
    rcases hq.good.1.cases with ⟨kq, _, eq⟩ | ⟨kq, _, eq⟩ | ⟨kq, _⟩
    · rw [hn2] at eq
      rw [if_neg (by omega), if_neg (by omega)]
      exact ⟨by rw [e1, fitA_good hp.good, ep, eq, one_kk, List.append_assoc], by rw [e2, fitA_good hq.good, ep, eq, two_kk, List.append_assoc], hsz, by simp only [List.length_append, List.length_singleton]; omega, by simp only [List.length_append, List.length_singleton]; omega, txt_good hp.good c.txt1, txt_good hq.good c.txt2⟩
    · rw [hn2] at eq
      rw [if_pos kq, if_neg (by omega)]
      exact ⟨by rw [e1, fitA_none, ep, eq, one_kd], by rw [e2, fitA_good hq.good, ep, eq, two_kd, List.append_assoc], hsz, by simp only [List.length_append, List.length_singleton]; omega, by simp only [List.length_append, List.length_singleton]; omega, txt_none c.txt1, txt_good hq.good c.txt2⟩
    · omega
  · rw [hn1] at ep
    rcases hq.good.1.cases with ⟨kq, _, eq⟩ | ⟨kq, _, eq⟩ | ⟨kq, _⟩
    · rw [hn2] at eq
      rw [if_neg (by omega), if_pos kp]
      exact ⟨by rw [e1, fitA_good hp.good, ep, eq, one_dk, List.append_assoc], by rw [e2, fitA_none, ep, eq, two_dk], hsz, by simp only [List.length_append, List.length_singleton]; omega, by simp only [List.length_append, List.length_singleton]; omega, txt_good hp.good c.txt1, txt_none c.txt2⟩
    · rw [hn2] at eq
      rw [if_pos kq, if_pos kp]
      exact ⟨by rw [e1, fitA_none, ep, eq, one_dd], by rw [e2, fitA_none, ep, eq, two_dd], hsz, by simp only [List.length_append, List.length_singleton]; omega, by simp only [List.length_append, List.length_singleton]; omega, txt_none c.txt1, txt_none c.txt2⟩
    · omega
  · omega
theorem TI.ends {A B : List At} {L1 L2 : List Pt} {tot : Nat} (c : TI A B [] [] L1 L2 tot) : fitA L1 = At.one A B ∧ fitA L2 = At.two A B := by
  rw [c.e1, c.e2]; simp [atomsL, At.one, At.two]
end Go.Proofs.YtonabfpgdgnpnaaDoor
