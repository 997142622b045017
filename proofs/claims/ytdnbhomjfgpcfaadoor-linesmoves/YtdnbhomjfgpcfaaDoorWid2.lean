/- A wide edit in its one form, as the document closes it: parts, no model in it. -/
import Derived.Test.YtdnbhomjfgpcfaaDoorWid1
import Derived.Test.YtdnbhomjfgpcfaaDoorOne0
namespace Go.Proofs.YtdnbhomjfgpcfaaDoor
set_option linter.unusedVariables false
set_option linter.unusedSimpArgs false

/-- what one asks of the numbers -/
def OneOk (l : List Pt) (p : Pt) : Prop := l.length ≤ 1099511627776 ∧ ∀ q, l.getLast? = some q → q.kind = p.kind → -9223372036854775808 ≤ q.n + p.n ∧ q.n + p.n ≤ 9223372036854775807 ∧ q.text.size + p.text.size ≤ 9223372036854775807
theorem nf_parts : ∀ {l : List Pt} {a : Int}, NfG a l → l.length ≤ 2 * At.toN (atomsL l) + (if a = 3 then 0 else 1)
  | [], _, _ => by simp
  | p :: l, a, h => by
    have h1 := nf_parts h.2.2.2
    have h2 := h.1.counts.2.1
    have h3 := h.1.1
    have h4 := h.2.1
    simp only [atomsL, At.to_app, List.length_cons]
    by_cases e : p.kind = 3
    · rw [if_pos e] at h1
      rw [if_neg (fun e2 => h4 (by rw [e, e2]))]
      omega
    · rw [if_neg e] at h1 h2
      split <;> omega
theorem one_ok {l : List Pt} {p : Pt} (h : NfG 0 l) (hp : Good p) (hl : (atomsL l).length ≤ 4398046511104) (ht : At.toN (atomsL l) ≤ 137438953472) (hn : p.n ≤ 4398046511104) : OneOk l p := by
  refine ⟨by have := nf_parts h; split at this <;> omega, fun q hq hk => ?_⟩
  have hm := List.mem_of_getLast? hq
  have h1 := nf_num h q hm
  have h2 := (h.good q hm).size
  have h3 := hp.size
  have h4 := (h.good q hm).1
  have h5 := hp.1
  omega
theorem good_put {q : List (List UInt8)} (h : Cps q) (hne : q ≠ []) : Good ⟨2, (q.length : Int), txB q⟩ := by
  refine ⟨?_, .inr (.inr ⟨rfl, q, tx_txB h, rfl⟩)⟩
  have := List.length_pos_iff.2 hne
  show (1 : Int) ≤ (q.length : Int)
  omega
/-- what is put, as a list of parts with it behind -/
def wputL (out : List Pt) (q : List (List UInt8)) : List Pt := if q = [] then out else oneL out ⟨2, (q.length : Int), txB q⟩
def dropL (out : List Pt) (n : Nat) : List Pt := if n = 0 then out else oneL out ⟨3, (n : Int), ByteArray.empty⟩
def bothL (out : List Pt) (q : List (List UInt8)) (n : Nat) : List Pt := dropL (wputL out q) n
theorem wputL_nf {out : List Pt} {q : List (List UInt8)} (h : NfG 0 out) (hq : Cps q) (hk : lastK 0 out ≠ 3) : NfG 0 (wputL out q) ∧ atomsL (wputL out q) = atomsL out ++ q.map .p := by
  unfold wputL
  by_cases e : q = []
  · rw [if_pos e, e]; exact ⟨h, by simp⟩
  · rw [if_neg e]
    have := oneL_nf h (good_put hq e) (fun k => hk k.2)
    exact ⟨this.1, by rw [this.2.1, atoms_put (tx_txB hq)]⟩
theorem dropL_nf {out : List Pt} {n : Nat} (h : NfG 0 out) : NfG 0 (dropL out n) ∧ atomsL (dropL out n) = atomsL out ++ List.replicate n .d := by
  unfold dropL
  by_cases e : n = 0
  · rw [if_pos e, e]; exact ⟨h, by simp⟩
  · rw [if_neg e]
    have := oneL_nf h (good_drop (n := (n : Int)) (by omega)) (fun k => by cases k.1)
    exact ⟨this.1, by rw [this.2.1, atoms_drop]; rfl⟩
theorem bothL_nf {out : List Pt} {q : List (List UInt8)} {n : Nat} (h : NfG 0 out) (hq : Cps q) (hk : lastK 0 out ≠ 3) : NfG 0 (bothL out q n) ∧ atomsL (bothL out q n) = atomsL out ++ (q.map .p ++ List.replicate n .d) := by
  have h1 := wputL_nf h hq hk
  have h2 := dropL_nf (n := n) h1.1
  exact ⟨h2.1, by unfold bothL; rw [h2.2, h1.2, List.append_assoc]⟩
/-- closing: behind so many places -/
structure ClI (P : List (List (List UInt8))) (D : List Bool) (out : List Pt) (q : List (List UInt8)) (n i : Nat) : Prop where
  nf : NfG 0 out
  lk : lastK 0 out ≠ 3
  cps : Cps q
  eq : atomsL out ++ At.canG q n (wAts (P.drop i) (D.drop i)) = At.can (wAts P D)
theorem ClI.start (P : List (List (List UInt8))) (D : List Bool) : ClI P D [] [] 0 0 := ⟨trivial, by decide, Cps.nil, rfl⟩
theorem ClI.most {P : List (List (List UInt8))} {D : List Bool} {out : List Pt} {q : List (List UInt8)} {n i : Nat} (h : ClI P D out q n i) : (atomsL out).length + q.length + n ≤ (wAts P D).length := by
  have := congrArg List.length h.eq
  rw [List.length_append, can_lenC, canG_lenC] at this
  omega
theorem ClI.more {P : List (List (List UInt8))} {D : List Bool} {out : List Pt} {q r : List (List UInt8)} {n i : Nat} {b : Bool} (h : ClI P D out q n i) (hr : P[i]? = some r) (hb : D[i]? = some b) (hc : Cps r) :
    atomsL out ++ At.canG (q ++ r) n (stp b :: wAts (P.drop (i + 1)) (D.drop (i + 1))) = At.can (wAts P D) := by
  rw [← h.eq, wAts_drop hr hb, canG_map]
theorem ClI.drops {P : List (List (List UInt8))} {D : List Bool} {out : List Pt} {q r : List (List UInt8)} {n i : Nat} (h : ClI P D out q n i) (hr : P[i]? = some r) (hb : D[i]? = some true) (hc : Cps r) : ClI P D out (q ++ r) (n + 1) (i + 1) :=
  ⟨h.nf, h.lk, h.cps.append hc, h.more hr hb hc⟩
theorem ClI.keeps {P : List (List (List UInt8))} {D : List Bool} {out : List Pt} {q r : List (List UInt8)} {n i : Nat} (h : ClI P D out q n i) (hr : P[i]? = some r) (hb : D[i]? = some false) (hc : Cps r) : ClI P D (oneL (bothL out (q ++ r) n) ⟨1, 1, ByteArray.empty⟩) [] 0 (i + 1) := by
  have h1 := bothL_nf (n := n) h.nf (h.cps.append hc) h.lk
  have h2 := oneL_nf h1.1 (good_keep (n := 1) (by decide)) (fun k => by cases k.1)
  refine ⟨h2.1, by rw [h2.2.2]; decide, Cps.nil, ?_⟩
  rw [h2.2.1, h1.2, ← h.more hr hb hc, atoms_keep]
  simp [stp, At.canG]
theorem ClI.ends {P : List (List (List UInt8))} {D : List Bool} {out : List Pt} {q r : List (List UInt8)} {n : Nat} (h : ClI P D out q n D.length) (hl : P.length = D.length + 1) (hr : P[D.length]? = some r) (hc : Cps r) : NfG 0 (bothL out (q ++ r) n) ∧ atomsL (bothL out (q ++ r) n) = At.can (wAts P D) := by
  have h1 := bothL_nf (n := n) h.nf (h.cps.append hc) h.lk
  refine ⟨h1.1, ?_⟩
  rw [h1.2, ← h.eq, wAts_last hl hr]
  have := canG_map r n [] q
  rw [List.append_nil] at this
  rw [this]
  simp [At.canG]
/-- what the walk asks at a both and a one behind it -/
theorem ClI.oks {P : List (List (List UInt8))} {D : List Bool} {out : List Pt} {q r : List (List UInt8)} {n i : Nat} (h : ClI P D out q n i) (hi : i < P.length) (hr : P[i]? = some r) (hc : Cps r) (hl : P.length = D.length + 1) (hM : (wAts P D).length ≤ 4398046511104) (hT : At.toN (wAts P D) ≤ 137438953472) :
    (q ++ r ≠ [] → OneOk out ⟨2, ((q ++ r).length : Int), txB (q ++ r)⟩) ∧ (n ≠ 0 → OneOk (wputL out (q ++ r)) ⟨3, (n : Int), ByteArray.empty⟩) ∧ OneOk (bothL out (q ++ r) n) ⟨1, 1, ByteArray.empty⟩ ∧ (txB (q ++ r)).size ≤ 4398046511104 := by
  have hq := h.cps.append hc
  obtain ⟨Y, hY⟩ : ∃ Y, wAts (P.drop i) (D.drop i) = r.map .p ++ Y := by
    have h1 := List.getElem?_eq_some_iff.1 hr
    rw [List.drop_eq_getElem_cons h1.1, h1.2]
    cases D.drop i with
    | nil => exact ⟨[], by simp [wAts]⟩
    | cons b B => exact ⟨stp b :: wAts (P.drop (i + 1)) B, by simp only [wAts]⟩
  have he := h.eq
  rw [hY, canG_map] at he
  have hsw := At.canG_sw Y (q ++ r) n
  have hlen : (atomsL out).length + (q ++ r).length + n ≤ (wAts P D).length := by
    have := congrArg List.length he
    rw [List.length_append, can_lenC, canG_lenC] at this
    omega
  have hto : At.toN (atomsL out) + (q ++ r).length ≤ At.toN (wAts P D) := by
    have h1 := congrArg At.toN he
    rw [At.to_app, ← At.toN_sw hsw, ← At.toN_sw (At.can_sw _), At.to_app, to_map] at h1
    omega
  have h1 := wputL_nf h.nf hq h.lk
  have h2 := dropL_nf (n := n) h1.1
  have hb : (atomsL (bothL out (q ++ r) n)).length ≤ 4398046511104 ∧ At.toN (atomsL (bothL out (q ++ r) n)) ≤ 137438953472 := by
    unfold bothL
    rw [h2.2, h1.2]
    rw [At.to_app, At.to_app, to_map, to_rep_d]
    simp only [List.length_append, List.length_map, List.length_replicate] at hlen hto ⊢
    omega
  have hp : (atomsL (wputL out (q ++ r))).length ≤ 4398046511104 ∧ At.toN (atomsL (wputL out (q ++ r))) ≤ 137438953472 := by
    rw [h1.2]
    rw [At.to_app, to_map]
    simp only [List.length_append, List.length_map, List.length_replicate] at hlen hto ⊢
    omega
  refine ⟨fun e => one_ok h.nf (good_put hq e) (by omega) (by omega) (by show ((q ++ r).length : Int) ≤ _; omega), fun e => one_ok h1.1 (good_drop (by omega)) hp.1 hp.2 (by show (n : Int) ≤ _; omega), one_ok h2.1 (good_keep (by decide)) hb.1 hb.2 (by decide), ?_⟩
  by_cases e : q ++ r = []
  · rw [e]; decide
  · have := (good_put hq e).size
    have h3 : (((txB (q ++ r)).size : Nat) : Int) ≤ 4 * ((q ++ r).length : Int) := this
    omega
end Go.Proofs.YtdnbhomjfgpcfaaDoor
