/- Parts of the walk: Tr0, Trw. -/
import Derived.Test.YtonabfpgdgnpnaaDoorMz03
namespace Go.Proofs.YtonabfpgdgnpnaaDoor
set_option linter.unusedVariables false
set_option linter.unusedSimpArgs false
open Go.ChangeShapes Go.WideShapes Go.ChangeAt Go.RowKit Go.Joins Go.Deep

theorem one_map (cs : List (List UInt8)) (x y : List At) : At.one (cs.map .p ++ x) y = cs.map .p ++ At.one x y := by
  induction cs with
  | nil => rfl
  | cons c cs ih => simp only [List.map_cons, List.cons_append, At.one]; rw [ih]
theorem two_map (cs : List (List UInt8)) (x y : List At) : At.two (cs.map .p ++ x) y = List.replicate cs.length .k ++ At.two x y := by
  induction cs with
  | nil => rfl
  | cons c cs ih => simp only [List.map_cons, List.cons_append, At.two, List.length_cons, List.replicate_succ]; rw [ih]
theorem one_map2 (cs : List (List UInt8)) {x : List At} (hx : NotP x) (y : List At) : At.one x (cs.map .p ++ y) = List.replicate cs.length .k ++ At.one x y := by
  induction cs with
  | nil => rfl
  | cons c cs ih =>
    simp only [List.map_cons, List.cons_append, List.length_cons, List.replicate_succ]
    cases x with
    | nil => simp only [At.one]; rw [ih]
    | cons s x =>
      cases s with
      | p e => exact absurd rfl (hx _ _)
      | k => simp only [At.one]; rw [ih]
      | d => simp only [At.one]; rw [ih]
theorem two_map2 (cs : List (List UInt8)) {x : List At} (hx : NotP x) (y : List At) : At.two x (cs.map .p ++ y) = cs.map .p ++ At.two x y := by
  induction cs with
  | nil => rfl
  | cons c cs ih =>
    simp only [List.map_cons, List.cons_append]
    cases x with
    | nil => simp only [At.two]; rw [ih]
    | cons s x =>
      cases s with
      | p e => exact absurd rfl (hx _ _)
      | k => simp only [At.two]; rw [ih]
      | d => simp only [At.two]; rw [ih]
theorem one_kk (n : Nat) (x y : List At) : At.one (List.replicate n .k ++ x) (List.replicate n .k ++ y) = List.replicate n .k ++ At.one x y := by
  induction n with
  | zero => rfl
  | succ n ih => simp only [List.replicate_succ, List.cons_append, At.one]; rw [ih]
theorem two_kk (n : Nat) (x y : List At) : At.two (List.replicate n .k ++ x) (List.replicate n .k ++ y) = List.replicate n .k ++ At.two x y := by
  induction n with
  | zero => rfl
  | succ n ih => simp only [List.replicate_succ, List.cons_append, At.two]; rw [ih]
theorem one_kd (n : Nat) (x y : List At) : At.one (List.replicate n .k ++ x) (List.replicate n .d ++ y) = At.one x y := by
  induction n with
  | zero => rfl
  | succ n ih => simp only [List.replicate_succ, List.cons_append, At.one]; rw [ih]
theorem two_kd (n : Nat) (x y : List At) : At.two (List.replicate n .k ++ x) (List.replicate n .d ++ y) = List.replicate n .d ++ At.two x y := by
  induction n with
  | zero => rfl
  | succ n ih => simp only [List.replicate_succ, List.cons_append, At.two]; rw [ih]
theorem one_dk (n : Nat) (x y : List At) : At.one (List.replicate n .d ++ x) (List.replicate n .k ++ y) = List.replicate n .d ++ At.one x y := by
  induction n with
  | zero => rfl
  | succ n ih => simp only [List.replicate_succ, List.cons_append, At.one]; rw [ih]
theorem two_dk (n : Nat) (x y : List At) : At.two (List.replicate n .d ++ x) (List.replicate n .k ++ y) = At.two x y := by
  induction n with
  | zero => rfl
  | succ n ih => simp only [List.replicate_succ, List.cons_append, At.two]; rw [ih]
theorem one_dd (n : Nat) (x y : List At) : At.one (List.replicate n .d ++ x) (List.replicate n .d ++ y) = At.one x y := by
  induction n with
  | zero => rfl
  | succ n ih => simp only [List.replicate_succ, List.cons_append, At.one]; rw [ih]
theorem two_dd (n : Nat) (x y : List At) : At.two (List.replicate n .d ++ x) (List.replicate n .d ++ y) = At.two x y := by
  induction n with
  | zero => rfl
  | succ n ih => simp only [List.replicate_succ, List.cons_append, At.two]; rw [ih]
theorem tr_len : ∀ (x y : List At), (At.one x y).length ≤ x.length + y.length ∧ (At.two x y).length ≤ x.length + y.length
  | .p c :: x, y => by have := tr_len x y; simp only [At.one, At.two, List.length_cons]; omega
  | [], [] => by simp [At.one, At.two]
  | [], .p c :: y => by have := tr_len [] y; simp only [At.one, At.two, List.length_cons, List.length_nil] at this ⊢; omega
  | [], .k :: y => by have := tr_len [] y; simp only [At.one, At.two, List.length_cons, List.length_nil] at this ⊢; omega
  | [], .d :: y => by have := tr_len [] y; simp only [At.one, At.two, List.length_cons, List.length_nil] at this ⊢; omega
  | .k :: x, [] => by have := tr_len x []; simp only [At.one, At.two, List.length_cons, List.length_nil] at this ⊢; omega
  | .d :: x, [] => by have := tr_len x []; simp only [At.one, At.two, List.length_cons, List.length_nil] at this ⊢; omega
  | .k :: x, .p c :: y => by have := tr_len (.k :: x) y; simp only [At.one, At.two, List.length_cons] at this ⊢; omega
  | .d :: x, .p c :: y => by have := tr_len (.d :: x) y; simp only [At.one, At.two, List.length_cons] at this ⊢; omega
  | .k :: x, .k :: y => by have := tr_len x y; simp only [At.one, At.two, List.length_cons] at this ⊢; omega
  | .k :: x, .d :: y => by have := tr_len x y; simp only [At.one, At.two, List.length_cons] at this ⊢; omega
  | .d :: x, .k :: y => by have := tr_len x y; simp only [At.one, At.two, List.length_cons] at this ⊢; omega
  | .d :: x, .d :: y => by have := tr_len x y; simp only [At.one, At.two, List.length_cons] at this ⊢; omega
termination_by x y => x.length + y.length
theorem Good.notp {p : Pt} (h : Good p) (hk : p.kind ≠ 2) (x : List At) : NotP (atoms p ++ x) := by
  have h1 := h.1
  intro c y e
  rcases h.cases with ⟨k, _, ea⟩ | ⟨k, _, ea⟩ | ⟨k, _⟩
  · rw [ea, show p.n.toNat = (p.n.toNat - 1) + 1 by omega, List.replicate_succ, List.cons_append] at e; cases e
  · rw [ea, show p.n.toNat = (p.n.toNat - 1) + 1 by omega, List.replicate_succ, List.cons_append] at e; cases e
  · exact hk k
structure TI (A B : List At) (lf lg L1 L2 : List Pt) (tot : Nat) : Prop where
  e1 : At.one A B = fitA L1 ++ At.one (atomsL lf) (atomsL lg)
  e2 : At.two A B = fitA L2 ++ At.two (atomsL lf) (atomsL lg)
  sz : At.fromN (atomsL lf) = At.fromN (atomsL lg)
  len1 : L1.length + (lf.length + lg.length) ≤ tot
  len2 : L2.length + (lf.length + lg.length) ≤ tot
  txt1 : sumT L1 ≤ 4 * (fitA L1).length
  txt2 : sumT L2 ≤ 4 * (fitA L2).length
theorem TI.start (a b : List Pt) (h : At.fromN (atomsL a) = At.fromN (atomsL b)) : TI (atomsL a) (atomsL b) a b [] [] (a.length + b.length) :=
  ⟨by simp [fitA, atomsL], by simp [fitA, atomsL], h, by simp, by simp, by simp [sumT], by simp [sumT]⟩
theorem fit_keep {n : Int} (h1 : 1 ≤ n) (h2 : n ≤ 1099511627776) : Fit1 ⟨1, n, ByteArray.empty⟩ := ⟨good_keep (by omega), h2⟩
theorem txt_good {L : List Pt} {p : Pt} (h : Fit1 p) (ht : sumT L ≤ 4 * (fitA L).length) : sumT (L ++ [p]) ≤ 4 * (fitA (L ++ [p])).length := by
  rw [sumT_snoc, fitA_good h, List.length_append]; have := h.txt; omega
theorem txt_none {L : List Pt} (ht : sumT L ≤ 4 * (fitA L).length) : sumT (L ++ [noPt]) ≤ 4 * (fitA (L ++ [noPt])).length := by
  rw [sumT_snoc, fitA_none]; have : noPt.text.size = 0 := rfl; omega
theorem fit_put {h : Pt} (hg : Fit1 h) (hk : h.kind = 2) : ∃ cs : List (List UInt8), (cs.length : Int) = h.n ∧ atoms h = cs.map .p ∧ atoms ⟨1, h.n, ByteArray.empty⟩ = List.replicate cs.length .k := by
  rcases hg.1.cases with ⟨k, _⟩ | ⟨k, _⟩ | ⟨_, cs, h3, h4, e⟩
  · omega
  · omega
  · exact ⟨cs, h4, e, by rw [atoms_keep]; congr 1; omega⟩
theorem TI.putf {A B : List At} {h : Pt} {lf lg L1 L2 : List Pt} {tot : Nat} (c : TI A B (h :: lf) lg L1 L2 tot) (hg : Fit1 h) (hk : h.kind = 2) : TI A B lf lg (L1 ++ [h]) (L2 ++ [⟨1, h.n, ByteArray.empty⟩]) tot := by
  obtain ⟨cs, h4, ea, eb⟩ := fit_put hg hk
  have hf := fit_keep hg.1.1 hg.2
  refine ⟨?_, ?_, ?_, ?_, ?_, txt_good hg c.txt1, txt_good hf c.txt2⟩
  · rw [c.e1, fitA_good hg, atomsL, ea, one_map, List.append_assoc]
  · rw [c.e2, fitA_good hf, atomsL, ea, two_map, eb, List.append_assoc]
  · have := c.sz; rw [atomsL, At.from_app, ea, from_map] at this; omega
  · have := c.len1; simp at this ⊢; omega
  · have := c.len2; simp at this ⊢; omega
theorem TI.putg {A B : List At} {h : Pt} {lf lg L1 L2 : List Pt} {tot : Nat} (c : TI A B lf (h :: lg) L1 L2 tot) (hg : Fit1 h) (hk : h.kind = 2) (hn : NotP (atomsL lf)) : TI A B lf lg (L1 ++ [⟨1, h.n, ByteArray.empty⟩]) (L2 ++ [h]) tot := by
  obtain ⟨cs, h4, ea, eb⟩ := fit_put hg hk
  have hf := fit_keep hg.1.1 hg.2
  refine ⟨?_, ?_, ?_, ?_, ?_, txt_good hf c.txt1, txt_good hg c.txt2⟩
  · rw [c.e1, fitA_good hf, atomsL, ea, one_map2 cs hn, eb, List.append_assoc]
  · rw [c.e2, fitA_good hg, atomsL, ea, two_map2 cs hn, List.append_assoc]
  · have := c.sz; rw [atomsL, At.from_app, ea, from_map] at this; omega
  · have := c.len1; simp at this ⊢; omega
  · have := c.len2; simp at this ⊢; omega
theorem TI.both {A B : List At} {h1 h2 p q : Pt} {lf lg lf' lg' L1 L2 : List Pt} {tot : Nat} (c : TI A B (h1 :: lf) (h2 :: lg) L1 L2 tot) (hp : Pc h1 p lf lf' (min h1.n h2.n).toNat) (hq : Pc h2 q lg lg' (min h1.n h2.n).toNat) (k1 : h1.kind = 1 ∨ h1.kind = 3) (k2 : h2.kind = 1 ∨ h2.kind = 3) (n1 : 1 ≤ h1.n) (n2 : 1 ≤ h2.n) :
    TI A B lf' lg' (L1 ++ [if q.kind = 3 then noPt else p]) (L2 ++ [if p.kind = 3 then noPt else q]) tot ∧ lf'.length + lg'.length < (h1 :: lf).length + (h2 :: lg).length := by
  obtain ⟨m, hm⟩ : ∃ m, (min h1.n h2.n).toNat = m := ⟨_, rfl⟩
  rw [hm] at hp hq
  have hlen : lf'.length + lg'.length < (h1 :: lf).length + (h2 :: lg).length := by
    have a1 := hp.len
    have a2 := hq.len
    simp only [List.length_cons]
    by_cases hle : h1.n ≤ h2.n
    · have := hp.all (by omega); omega
    · have := hq.all (by omega); omega
  have hnp := hp.num
  have hnq := hq.num
  have hkp := hp.kind
  have hkq := hq.kind
  have e1 := c.e1
  have e2 := c.e2
  have hs := c.sz
  rw [atomsL, atomsL, pc_split hp, pc_split hq] at e1 e2 hs
  refine ⟨?_, hlen⟩
  have hl1 := c.len1
  have hl2 := c.len2
  rw [At.from_app, At.from_app] at hs
  have cp := hp.good.1.counts.1
  have cq := hq.good.1.counts.1
  rw [if_neg (by omega)] at cp cq
  have hsz : At.fromN (atomsL lf') = At.fromN (atomsL lg') := by omega
  have hn1 : p.n.toNat = m := by omega
  have hn2 : q.n.toNat = m := by omega
  rcases hp.good.1.cases with ⟨kp, _, ep⟩ | ⟨kp, _, ep⟩ | ⟨kp, _⟩
  · rw [hn1] at ep
    rcases hq.good.1.cases with ⟨kq, _, eq⟩ | ⟨kq, _, eq⟩ | ⟨kq, _⟩
    · rw [hn2] at eq
      rw [if_neg (by omega), if_neg (by omega)]
      exact ⟨by rw [e1, fitA_good hp.good, ep, eq, one_kk, List.append_assoc], by rw [e2, fitA_good hq.good, ep, eq, two_kk, List.append_assoc], hsz, by simp only [List.length_append, List.length_singleton]; omega, by simp only [List.length_append, List.length_singleton]; omega, txt_good hp.good c.txt1, txt_good hq.good c.txt2⟩
    · rw [hn2] at eq
      rw [if_pos kq, if_neg (by omega)]
      exact ⟨by rw [e1, fitA_none, ep, eq, one_kd], by rw [e2, fitA_good hq.good, ep, eq, two_kd, List.append_assoc], hsz, by simp only [List.length_append, List.length_singleton]; omega, by simp only [List.length_append, List.length_singleton]; omega, txt_none c.txt1, txt_good hq.good c.txt2⟩
    · omega
  · rw [hn1] at ep
    rcases hq.good.1.cases with ⟨kq, _, eq⟩ | ⟨kq, _, eq⟩ | ⟨kq, _⟩
    · rw [hn2] at eq
      rw [if_neg (by omega), if_pos kp]
      exact ⟨by rw [e1, fitA_good hp.good, ep, eq, one_dk, List.append_assoc], by rw [e2, fitA_none, ep, eq, two_dk], hsz, by simp only [List.length_append, List.length_singleton]; omega, by simp only [List.length_append, List.length_singleton]; omega, txt_good hp.good c.txt1, txt_none c.txt2⟩
    · rw [hn2] at eq
      rw [if_pos kq, if_pos kp]
      exact ⟨by rw [e1, fitA_none, ep, eq, one_dd], by rw [e2, fitA_none, ep, eq, two_dd], hsz, by simp only [List.length_append, List.length_singleton]; omega, by simp only [List.length_append, List.length_singleton]; omega, txt_none c.txt1, txt_none c.txt2⟩
    · omega
  · omega
theorem TI.ends {A B : List At} {L1 L2 : List Pt} {tot : Nat} (c : TI A B [] [] L1 L2 tot) : fitA L1 = At.one A B ∧ fitA L2 = At.two A B := by
  rw [c.e1, c.e2]; simp [atomsL, At.one, At.two]
end Go.Proofs.YtonabfpgdgnpnaaDoor

namespace Go.Proofs.YtonabfpgdgnpnaaDoor
set_option linter.unusedVariables false
set_option linter.unusedSimpArgs false
open Go.ChangeShapes Go.WideShapes Go.ChangeAt Go.RowKit Go.Joins Go.Deep

structure TW (w wr : World) (g1 g2 B : Nat) (v1 v2 : Value) (lf lg L1 L2 : List Pt) (bx : List (Nat × Pt)) : Prop where
  f1 : Fa wr g1 B lf
  f2 : Fa wr g2 B lg
  o1 : OwnP wr w.heap.size v1 L1
  o2 : OwnP wr w.heap.size v2 L2
  sep : ∀ k, v1.ownBlock = some k → v2.ownBlock ≠ some k
  bel : Below w.heap.size w wr
  ne : g1 ≠ g2
  h1 : w.heap.size ≤ g1
  h2 : w.heap.size ≤ g2
  hB : B ≤ w.heap.size
  box : ∀ q p, (q, p) ∈ bx → RowAt wr q 39 (pcs p) ∧ v1.ownBlock ≠ some q ∧ v2.ownBlock ≠ some q ∧ w.heap.size ≤ q
theorem TW.call {w wr w' : World} {g1 g2 B : Nat} {v1 v2 : Value} {lf lg L1 L2 : List Pt} {bx : List (Nat × Pt)} (h : TW w wr g1 g2 B v1 v2 lf lg L1 L2 bx) (hb : Below wr.heap.size wr w') : TW w w' g1 g2 B v1 v2 lf lg L1 L2 bx :=
  ⟨h.f1.call hb, h.f2.call hb, h.o1.call hb, h.o2.call hb, h.sep, h.bel.trans (hb.mono h.bel.size), h.ne, h.h1, h.h2, h.hB, fun q p m => ⟨(h.box q p m).1.below hb (h.box q p m).1.lt, (h.box q p m).2⟩⟩
theorem TW.boxne {w wr : World} {g1 g2 B : Nat} {v1 v2 : Value} {lf lg L1 L2 : List Pt} {bx : List (Nat × Pt)} (h : TW w wr g1 g2 B v1 v2 lf lg L1 L2 bx) {q : Nat} {p : Pt} (m : (q, p) ∈ bx) : q ≠ g1 ∧ q ≠ g2 := by
  obtain ⟨c1, r1⟩ := h.f1.row
  obtain ⟨c2, r2⟩ := h.f2.row
  exact ⟨rtag (h.box q p m).1 r1 (by decide), rtag (h.box q p m).1 r2 (by decide)⟩
theorem TW.one {w wr w' : World} {g1 g2 B : Nat} {v1 v2 : Value} {lf lg L1 L2 : List Pt} {bx : List (Nat × Pt)} {lf' : List Pt} (h : TW w wr g1 g2 B v1 v2 lf lg L1 L2 bx) (f : Fa w' g1 B lf') (ho : Only (· = g1) wr w') : TW w w' g1 g2 B v1 v2 lf' lg L1 L2 bx :=
  ⟨f, h.f2.keep ho (fun e => h.ne e.symm) (fun k hk => by have := h.h1; have := h.hB; omega), own_only h.o1 ho (fun k hk e => h.o1.ne h.f1 (e ▸ hk)), own_only h.o2 ho (fun k hk e => h.o2.ne h.f1 (e ▸ hk)), h.sep, h.bel.trans (ho.below h.bel.size (fun k hk => by have := h.h1; omega)), h.ne, h.h1, h.h2, h.hB, fun q p m => ⟨(h.box q p m).1.only ho (fun e => (h.boxne m).1 e), (h.box q p m).2⟩⟩
theorem TW.two {w wr w' : World} {g1 g2 B : Nat} {v1 v2 : Value} {lf lg L1 L2 : List Pt} {bx : List (Nat × Pt)} {lg' : List Pt} (h : TW w wr g1 g2 B v1 v2 lf lg L1 L2 bx) (f : Fa w' g2 B lg') (ho : Only (· = g2) wr w') : TW w w' g1 g2 B v1 v2 lf lg' L1 L2 bx :=
  ⟨h.f1.keep ho (fun e => h.ne e) (fun k hk => by have := h.h2; have := h.hB; omega), f, own_only h.o1 ho (fun k hk e => h.o1.ne h.f2 (e ▸ hk)), own_only h.o2 ho (fun k hk e => h.o2.ne h.f2 (e ▸ hk)), h.sep, h.bel.trans (ho.below h.bel.size (fun k hk => by have := h.h2; omega)), h.ne, h.h1, h.h2, h.hB, fun q p m => ⟨(h.box q p m).1.only ho (fun e => (h.boxne m).2 e), (h.box q p m).2⟩⟩
theorem TW.both {w wr w' : World} {g1 g2 B : Nat} {v1 v2 : Value} {lf lg L1 L2 : List Pt} {bx : List (Nat × Pt)} {lf' lg' : List Pt} (h : TW w wr g1 g2 B v1 v2 lf lg L1 L2 bx) (f : Fa w' g1 B lf') (f' : Fa w' g2 B lg') (ho : Only (fun k => k = g1 ∨ k = g2) wr w') : TW w w' g1 g2 B v1 v2 lf' lg' L1 L2 bx :=
  ⟨f, f', own_only h.o1 ho (fun k hk e => by rcases e with e | e; exact h.o1.ne h.f1 (e ▸ hk); exact h.o1.ne h.f2 (e ▸ hk)), own_only h.o2 ho (fun k hk e => by rcases e with e | e; exact h.o2.ne h.f1 (e ▸ hk); exact h.o2.ne h.f2 (e ▸ hk)), h.sep, h.bel.trans (ho.below h.bel.size (fun k hk => by have := h.h1; have := h.h2; omega)), h.ne, h.h1, h.h2, h.hB, fun q p m => ⟨(h.box q p m).1.only ho (fun e => by rcases e with e | e; exact (h.boxne m).1 e; exact (h.boxne m).2 e), (h.box q p m).2⟩⟩
theorem TW.push {w wr : World} {g1 g2 B : Nat} {v1 v2 : Value} {lf lg L1 L2 : List Pt} {bx : List (Nat × Pt)} (h : TW w wr g1 g2 B v1 v2 lf lg L1 L2 bx) (p : Pt) : TW w (wr.alloc (.cells #[.int .i64 p.kind, .int .i64 p.n, .string p.text] 39)) g1 g2 B v1 v2 lf lg L1 L2 ((wr.heap.size, p) :: bx) := by
  have h' := h.call (w' := wr.alloc (.cells #[.int .i64 p.kind, .int .i64 p.n, .string p.text] 39)) ((Below.refl _ _).alloc (Nat.le_refl _) _)
  refine ⟨h'.f1, h'.f2, h'.o1, h'.o2, h'.sep, h'.bel, h'.ne, h'.h1, h'.h2, h'.hB, fun q p' m => ?_⟩
  rcases List.mem_cons.1 m with e | m
  · obtain ⟨rfl, rfl⟩ : q = wr.heap.size ∧ p' = p := by simpa using e
    exact ⟨RowAt.new wr 39 (pcs p'), fun e => by have := (h.o1.lt _ e).2; omega, fun e => by have := (h.o2.lt _ e).2; omega, h.bel.size⟩
  · exact h'.box q p' m
theorem TW.pop {w wr : World} {g1 g2 B : Nat} {v1 v2 : Value} {lf lg L1 L2 : List Pt} {bx : List (Nat × Pt)} (h : TW w wr g1 g2 B v1 v2 lf lg L1 L2 bx) : TW w wr g1 g2 B v1 v2 lf lg L1 L2 [] :=
  ⟨h.f1, h.f2, h.o1, h.o2, h.sep, h.bel, h.ne, h.h1, h.h2, h.hB, fun q p m => by cases m⟩
theorem TW.app1 {w wr w' : World} {g1 g2 B : Nat} {v1 v2 : Value} {lf lg L1 L2 : List Pt} {bx : List (Nat × Pt)} {v' : Value} {p : Pt} (h : TW w wr g1 g2 B v1 v2 lf lg L1 L2 bx) (hv : w'.ownsRow w.heap.size 39 3 v' (L1.length + 1) (ptc L1 ++ pcs p)) (ho : Only (fun k => v1.ownBlock = some k) wr w') (hk : ∀ q, v'.ownBlock = some q → v1.ownBlock = some q ∨ q = wr.heap.size) : TW w w' g1 g2 B v' v2 lf lg (L1 ++ [p]) L2 bx := by
  refine ⟨h.f1.keep ho (fun e => h.o1.ne h.f1 e) (fun k hk => Nat.le_trans h.hB (h.o1.lt k hk).1), h.f2.keep ho (fun e => h.o1.ne h.f2 e) (fun k hk => Nat.le_trans h.hB (h.o1.lt k hk).1), by unfold OwnP; rw [List.length_append, List.length_singleton, ptc_snoc]; exact hv, own_only h.o2 ho (fun k hk e => h.sep k e hk), fun k hk2 e => ?_, h.bel.trans (ho.below h.bel.size (fun k hk => (h.o1.lt k hk).1)), h.ne, h.h1, h.h2, h.hB, fun q p m => ⟨(h.box q p m).1.only ho (fun e => (h.box q p m).2.1 e), fun e => ?_, (h.box q p m).2.2⟩⟩
  · rcases hk k hk2 with h1 | h1
    · exact h.sep k h1 e
    · have := (h.o2.lt k e).2; omega
  · rcases hk q e with h1 | h1
    · exact (h.box q p m).2.1 h1
    · have := (h.box q p m).1.lt; omega
theorem TW.app2 {w wr w' : World} {g1 g2 B : Nat} {v1 v2 : Value} {lf lg L1 L2 : List Pt} {bx : List (Nat × Pt)} {v' : Value} {p : Pt} (h : TW w wr g1 g2 B v1 v2 lf lg L1 L2 bx) (hv : w'.ownsRow w.heap.size 39 3 v' (L2.length + 1) (ptc L2 ++ pcs p)) (ho : Only (fun k => v2.ownBlock = some k) wr w') (hk : ∀ q, v'.ownBlock = some q → v2.ownBlock = some q ∨ q = wr.heap.size) : TW w w' g1 g2 B v1 v' lf lg L1 (L2 ++ [p]) bx := by
  refine ⟨h.f1.keep ho (fun e => h.o2.ne h.f1 e) (fun k hk => Nat.le_trans h.hB (h.o2.lt k hk).1), h.f2.keep ho (fun e => h.o2.ne h.f2 e) (fun k hk => Nat.le_trans h.hB (h.o2.lt k hk).1), own_only h.o1 ho (fun k hk e => h.sep k hk e), by unfold OwnP; rw [List.length_append, List.length_singleton, ptc_snoc]; exact hv, fun k hk1 e => ?_, h.bel.trans (ho.below h.bel.size (fun k hk => (h.o2.lt k hk).1)), h.ne, h.h1, h.h2, h.hB, fun q p m => ⟨(h.box q p m).1.only ho (fun e => (h.box q p m).2.2.1 e), (h.box q p m).2.1, fun e => ?_, (h.box q p m).2.2.2⟩⟩
  · rcases hk k e with h1 | h1
    · exact h.sep k hk1 h1
    · have := (h.o1.lt k hk1).2; omega
  · rcases hk q e with h1 | h1
    · exact (h.box q p m).2.2.1 h1
    · have := (h.box q p m).1.lt; omega
/-- what inLimit answers -/
def LimR (l : List Pt) (v1 v2 : Value) (r : Ending) : Prop := sizeL l = none ∧ r = .returned (.tuple #[.slice none 0 0, .slice none 0 0, .int .i64 4]) ∨ sizeL l ≠ none ∧ r = .returned (.tuple #[v1, v2, .int .i64 0])
set_option maxRecDepth 100000 in
set_option maxHeartbeats 4000000 in
theorem inLimit_any (a : Option Addr) (l : List Pt) (c : Nat) (v2 : Value) (w : World) (hT : UT w) (hp : PtsAt w a l) (hc : l.length ≤ maxLen) (hs : ∀ p ∈ l, p.text.size ≤ 281474976710656) :
    Calls Tryd.prog 69 #[.slice a l.length c, v2] w fun r w' => LimR l (.slice a l.length c) v2 r ∧ Below w.heap.size w w' := by
  have HS := hide (size_any a l c w hT hp hc hs)
  obtain ⟨n, hn⟩ : ∃ n, l.length = n := ⟨_, rfl⟩
  rw [hn] at HS ⊢
  clear hT hp hc hs hn
  cases hsz : sizeL l with
  | none =>
    have e : szVal l = .tuple #[.int .i64 0, .int .i64 0, .int .i64 30] := by unfold szVal; rw [hsz]
    rw [e] at HS
    have HZ := hide hsz
    clear e hsz
    go_enter Tryd.func69, Tryd.ntmps69
    go_wp2_with fail
    refine Calls.mono (unhide HS) ?_
    rintro r w1 ⟨rfl, hb1⟩
    have HB1 := hide hb1
    clear hb1 HS
    go_wp2_with fail
    go_ret3
    exact ⟨.inl ⟨unhide HZ, rfl⟩, unhide HB1⟩
  | some x =>
    obtain ⟨fa, ta, ka⟩ := x
    have e : szVal l = .tuple #[.int .i64 fa, .int .i64 ta, .int .i64 0] := by unfold szVal; rw [hsz]
    rw [e] at HS
    have HZ := hide hsz
    clear e hsz
    go_enter Tryd.func69, Tryd.ntmps69
    go_wp2_with fail
    refine Calls.mono (unhide HS) ?_
    rintro r w1 ⟨rfl, hb1⟩
    have HB1 := hide hb1
    clear hb1 HS
    go_wp2_with fail
    go_ret3
    exact ⟨.inr ⟨by rw [unhide HZ]; simp, rfl⟩, unhide HB1⟩
end Go.Proofs.YtonabfpgdgnpnaaDoor
