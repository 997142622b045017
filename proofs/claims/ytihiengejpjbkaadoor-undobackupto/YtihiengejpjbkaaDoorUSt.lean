/- A history and the text that it speaks of: what each call makes of both. -/
import Derived.Test.YtihiengejpjbkaaDoorUDo
import Derived.Test.YtihiengejpjbkaaDoorBck0
import Derived.Test.YtihiengejpjbkaaDoorSam
namespace Go.Proofs.YtihiengejpjbkaaDoor
set_option linter.unusedVariables false
set_option linter.unusedSimpArgs false
open Go.ChangeShapes Go.WideShapes Go.ChangeAt Go.RowKit Go.Joins Go.Deep

theorem to_le (x : List At) : At.toN x ≤ At.fromN x + At.putsN x := by
  induction x with
  | nil => simp [At.toN]
  | cons s x ih => cases s <;> simp only [At.toN, At.fromN, At.putsN] <;> omega
theorem puts_sum {l : List Pt} (h : ∀ p ∈ l, Fit1 p) : At.putsN (atomsL l) ≤ sumT l := by
  induction l with
  | nil => simp [atomsL, At.putsN, sumT]
  | cons p l ih =>
    have h1 := ih (fun q hq => h q (List.mem_cons_of_mem _ hq))
    have e : sumT (p :: l) = p.text.size + sumT l := by simp [sumT]
    rw [atomsL, At.puts_app, e]
    have hg := (h p (List.mem_cons_self ..)).1
    rcases hg.cases with ⟨_, _, ea⟩ | ⟨_, _, ea⟩ | ⟨_, cs, h3, h4, ea⟩
    · rw [ea, puts_rep_k]; omega
    · rw [ea, puts_rep_d]; omega
    · rw [ea, puts_map]
      have := h3.cps.len
      rw [← h3.size] at this
      omega
theorem Tx.few {s : ByteArray} {cs : List (List UInt8)} (h : Tx s cs) : cs.length ≤ s.size := by
  have := h.cps.len
  rw [← h.size] at this
  omega
theorem ed_to {l : List Pt} {f t : Nat} (h : IsEd l f t) : t ≤ f + sumT l := by
  have h1 := to_le (atomsL l)
  have h2 := puts_sum (ed_fit h)
  rw [h.2.1, h.2.2.1] at h1
  omega
theorem ed_puts {l : List Pt} {f t : Nat} (h : IsEd l f t) : At.putsN (atomsL l) ≤ sumT l := puts_sum (ed_fit h)
theorem one_to {x e : List At} (h : At.fromN x = At.fromN e) : At.toN (At.can (At.one x e)) ≤ At.toN x + At.putsN e := by
  have hs := At.sizes x e h
  have := two_to h
  rw [At.can_to] at this ⊢
  omega
def Mk (s : ByteArray) (L : List Dl) (k : Nat) : Nat := s.size + sumD (L.take k)
theorem Mk_next {s : ByteArray} {L : List Dl} {k : Nat} {d : Dl} (h : L[k]? = some d) : Mk s L (k + 1) = Mk s L k + sumT d.l := by
  unfold Mk sumD
  rw [List.take_add_one, h]
  simp
  omega
theorem sumD_take (L : List Dl) (k : Nat) : sumD (L.take k) ≤ sumD L := by
  have h : sumD (L.take k ++ L.drop k) = sumD (L.take k) + sumD (L.drop k) := by unfold sumD; rw [List.map_append, List.sum_append]
  rw [List.take_append_drop] at h
  omega
theorem Mk_le (s : ByteArray) (L : List Dl) (k : Nat) : Mk s L k ≤ s.size + sumD L := by
  have := sumD_take L k
  unfold Mk
  omega
/-- a history begun in w, its text -/
structure FiS (w W : World) (g : Nat) (vb va : Value) (H : Hs) (s : ByteArray) (cs : List (List UInt8)) (M : Nat) : Prop where
  hi : Hi W w.heap.size g vb va H
  n : H.n = (cs.length : Int)
  tx : Tx s cs
  lb : H.back.length ≤ 50
  la : H.again.length ≤ 50
  cb : Chain cs.length (ats H.back)
  ca : Chain cs.length (ats H.again)
  sb : Sz M (ats H.back)
  sa : Sz M (ats H.again)
  m : cs.length ≤ M
  bel : Below w.heap.size w W
theorem FiS.call {w W W' : World} {g M : Nat} {vb va : Value} {H : Hs} {s : ByteArray} {cs : List (List UInt8)} (h : FiS w W g vb va H s cs M) (hb : Below W.heap.size W W') : FiS w W' g vb va H s cs M :=
  ⟨h.hi.call hb, h.n, h.tx, h.lb, h.la, h.cb, h.ca, h.sb, h.sa, h.m, h.bel.trans (hb.mono h.bel.size)⟩
theorem FiS.mono {w W : World} {g M N : Nat} {vb va : Value} {H : Hs} {s : ByteArray} {cs : List (List UInt8)} (h : FiS w W g vb va H s cs M) (hN : M ≤ N) : FiS w W g vb va H s cs N :=
  ⟨h.hi, h.n, h.tx, h.lb, h.la, h.cb, h.ca, h.sb.mono hN, h.sa.mono hN, Nat.le_trans h.m hN, h.bel⟩
theorem Chain.push {P : List Pe} {p : Pe} {a b : Nat} (h : Chain b (ats P)) (h1 : At.fromN (atomsL p.l) = a) (h2 : At.toN (atomsL p.l) = b) : Chain a (ats (pushP P p)) := by
  rw [ats_push]
  exact Chain.take ⟨h1, by rw [h2]; exact h⟩
theorem Sz.push {P : List Pe} {p : Pe} {M : Nat} (h : Sz M (ats P)) (h1 : At.fromN (atomsL p.l) ≤ M) (h2 : At.toN (atomsL p.l) ≤ M) : Sz M (ats (pushP P p)) := by
  rw [ats_push]
  refine Sz.take (fun x hx => ?_)
  rcases List.mem_cons.1 hx with rfl | hx
  · exact ⟨h1, h2⟩
  · exact h x hx
theorem Chain.none (n : Nat) : Chain n (ats []) := by simp [ats, Chain]
theorem Sz.none (M : Nat) : Sz M (ats []) := by intro x hx; simp [ats] at hx
theorem inv_from {x : List At} {cs : List (List UInt8)} (h : cs.length = At.fromN x) : At.fromN (At.can (At.inv x cs)) = At.toN x ∧ At.toN (At.can (At.inv x cs)) = cs.length := by
  have hs := At.inv_sizes x cs h
  rw [At.can_from, At.can_to, hs.1, hs.2, h]
  exact ⟨rfl, rfl⟩
/-- one's own edit -/
def MineS (w : World) (g M : Nat) (l : List Pt) (cs : List (List UInt8)) (r : Ending) (w' : World) : Prop := ∃ vb va H, r = .returned (.int .i64 0) ∧ Below w.heap.size w w' ∧ ∀ S, Tx S (At.app (atomsL l) cs) → FiS w w' g vb va H S (At.app (atomsL l) cs) M
theorem MineS.shape {w : World} {g M : Nat} {l : List Pt} {cs : List (List UInt8)} {r : Ending} {w' : World} (h : MineS w g M l cs r w') : ∃ vb va H, r = .returned (.int .i64 0) ∧ Below w.heap.size w w' ∧ ∀ S, Tx S (At.app (atomsL l) cs) → FiS w w' g vb va H S (At.app (atomsL l) cs) M := h
theorem FiS.mine {w W : World} {g M m t c : Nat} {a : Option Addr} {l : List Pt} {vb va : Value} {H : Hs} {s : ByteArray} {cs : List (List UInt8)} (h : FiS w W g vb va H s cs M) (hT : UT W) (he : Edit W a l c) (hm : l.length = m) (hed : IsEd l cs.length t) (hM : M + sumT l ≤ 1048576) (hl : m ≤ 1099511627776) :
    Calls Tryd.prog 15 #[.pointer (some ⟨g, 0, none⟩), .slice a m c, .string s] W fun r w' => MineS w g (M + sumT l) l cs r w' := by
  have ht := ed_to hed
  have hm0 := h.m
  refine Calls.mono (mine_ok w.heap.size g m t vb va H a l c s cs W h.hi hT he hm h.tx hed h.n (by omega) h.lb hl) ?_
  intro r w' hr
  obtain ⟨p, vb', rfl, at', pk, hh, on⟩ := hr.shape
  have hi := inv_from hed.2.1.symm
  rw [← at', hed.2.2.1] at hi
  have hlen : (At.app (atomsL l) cs).length = t := by rw [At.app_len _ _ hed.2.1.symm]; exact hed.2.2.1
  refine ⟨vb', _, _, rfl, h.bel.trans (h.hi.low on), fun S hS => ⟨hh, by rw [hlen], hS, by show (pushP H.back p).length ≤ 50; rw [pushP_len]; omega, by simp, ?_, Chain.none _, ?_, Sz.none _, by rw [hlen]; omega, h.bel.trans (h.hi.low on)⟩⟩
  · rw [hlen]
    exact Chain.push h.cb hi.1 hi.2
  · exact Sz.push (h.sb.mono (Nat.le_add_right _ _)) (by rw [hi.1]; omega) (by rw [hi.2]; omega)
theorem FiS.theirs {w W : World} {g M m t c : Nat} {a : Option Addr} {l : List Pt} {vb va : Value} {H : Hs} {s : ByteArray} {cs : List (List UInt8)} (h : FiS w W g vb va H s cs M) (hT : UT W) (he : Edit W a l c) (hm : l.length = m) (hed : IsEd l cs.length t) (hM : M + sumT l ≤ 1048576) :
    Calls Tryd.prog 17 #[.pointer (some ⟨g, 0, none⟩), .slice a m c] W fun r w' => MineS w g (M + sumT l) l cs r w' := by
  have ht := ed_to hed
  have hp := ed_puts hed
  have hm0 := h.m
  refine Calls.mono (theirs_ok w.heap.size g m cs.length t M (sumT l) vb va H a l c W h.hi hT he hm hed h.n (by omega) h.lb h.la (by omega) h.sb h.sa h.cb h.ca hp hm0 (by omega)) ?_
  intro r w' hr
  obtain ⟨vb', va', P, Q, rfl, aP, aQ, hh, on⟩ := hr.shape
  have hlen : (At.app (atomsL l) cs).length = t := by rw [At.app_len _ _ hed.2.1.symm]; exact hed.2.2.1
  have lP : P.length = H.back.length := by rw [← ats_len, aP, beh_len, ats_len]
  have lQ : Q.length = H.again.length := by rw [← ats_len, aQ, beh_len, ats_len]
  refine ⟨vb', va', _, rfl, h.bel.trans (h.hi.low on), fun S hS => ⟨hh, by rw [hlen], hS, by show P.length ≤ 50; rw [lP]; exact h.lb, by show Q.length ≤ 50; rw [lQ]; exact h.la, ?_, ?_, ?_, ?_, by rw [hlen]; omega, h.bel.trans (h.hi.low on)⟩⟩
  · show Chain _ (ats P)
    rw [hlen, aP, ← hed.2.2.1]
    exact Chain.beh (by rw [hed.2.1]; exact h.cb)
  · show Chain _ (ats Q)
    rw [hlen, aQ, ← hed.2.2.1]
    exact Chain.beh (by rw [hed.2.1]; exact h.ca)
  · show Sz _ (ats P)
    rw [aP]
    exact Sz.beh (by rw [hed.2.1]; exact h.cb) h.sb hp (by rw [hed.2.2.1]; omega)
  · show Sz _ (ats Q)
    rw [aQ]
    exact Sz.beh (by rw [hed.2.1]; exact h.ca) h.sa hp (by rw [hed.2.2.1]; omega)
/-- one edit is undone, or done again -/
def StepS (w : World) (g M : Nat) (v : Value) (l : List Pt) (cs : List (List UInt8)) (q : Hs → Prop) (r : Ending) (w' : World) : Prop := ∃ vb va H a c, r = .returned (.tuple #[v, .int .i64 0]) ∧ v = .slice a l.length c ∧ Edit w' a l c ∧ q H ∧ Below w.heap.size w w' ∧ ∀ S, Tx S (At.app (atomsL l) cs) → FiS w w' g vb va H S (At.app (atomsL l) cs) M
theorem StepS.shape {w : World} {g M : Nat} {v : Value} {l : List Pt} {cs : List (List UInt8)} {q : Hs → Prop} {r : Ending} {w' : World} (h : StepS w g M v l cs q r w') : ∃ vb va H a c, r = .returned (.tuple #[v, .int .i64 0]) ∧ v = .slice a l.length c ∧ Edit w' a l c ∧ q H ∧ Below w.heap.size w w' ∧ ∀ S, Tx S (At.app (atomsL l) cs) → FiS w w' g vb va H S (At.app (atomsL l) cs) M := h
theorem FiS.undo {w W : World} {g M : Nat} {vb va : Value} {H : Hs} {s : ByteArray} {cs : List (List UInt8)} {P : List Pe} {p : Pe} (h : FiS w W g vb va H s cs M) (hU : ∀ W, Below w.heap.size w W → UT W) (hM : M ≤ 1048576) (hF : H.back = P ++ [p]) :
    IsEd p.l cs.length (At.toN (atomsL p.l)) ∧ Calls Tryd.prog 19 #[.pointer (some ⟨g, 0, none⟩), .string s] W fun r w' => StepS w g M p.v p.l cs (fun H' => H'.back = P ∧ ∃ q, H'.again = pushP H.again q ∧ atomsL q.l = At.can (At.inv (atomsL p.l) cs)) r w' := by
  have hm0 := h.m
  have hp := h.hi.eb p (by rw [hF]; exact List.mem_append.2 (.inr (by simp)))
  have ha : ats H.back = atomsL p.l :: ats P := by rw [hF]; simp [ats]
  have hc := h.cb
  rw [ha] at hc
  have hs := h.sb
  rw [ha] at hs
  have hs1 := hs _ (List.mem_cons_self ..)
  have hed : IsEd p.l cs.length (At.toN (atomsL p.l)) := ⟨hp.nf, hc.1, rfl, by omega, by have := hs1.2; omega⟩
  refine ⟨hed, ?_⟩
  obtain ⟨t, ht⟩ : ∃ t, At.toN (atomsL p.l) = t := ⟨_, rfl⟩
  rw [ht] at hed
  have hPl : P.length ≤ 50 := by have := h.lb; rw [hF, List.length_append] at this; omega
  refine Calls.mono (undo_ok w.heap.size g t vb va H P p s cs W h.hi (fun W' hW => hU W' (h.bel.trans hW)) hF (by omega) h.la h.tx hed h.n (by omega) (by have := hs1.2; omega)) ?_
  intro r w' hr
  obtain ⟨q, vb', va', rfl, at', pq, pp, hh, on⟩ := hr.shape
  obtain ⟨a, c, hv, E⟩ := pp.edit hed (by have := hs1.2; omega)
  have hi := inv_from hed.2.1.symm
  rw [← at', hed.2.2.1] at hi
  have hlen : (At.app (atomsL p.l) cs).length = t := by rw [At.app_len _ _ hed.2.1.symm]; exact hed.2.2.1
  have h2 := hs1.2
  rw [ht] at h2
  refine ⟨vb', va', ⟨t, P, pushP H.again q⟩, a, c, rfl, hv, E, ⟨rfl, q, rfl, at'⟩, h.bel.trans (h.hi.low on), fun S hS => ?_⟩
  have cP : Chain t (ats P) := by rw [← ht]; exact hc.2
  have sP : Sz M (ats P) := fun x hx => hs x (List.mem_cons_of_mem _ hx)
  have cQ : Chain t (ats (pushP H.again q)) := Chain.push h.ca hi.1 hi.2
  have sQ : Sz M (ats (pushP H.again q)) := Sz.push h.sa (by rw [hi.1]; exact h2) (by rw [hi.2]; exact hm0)
  have lQ : (pushP H.again q).length ≤ 50 := by rw [pushP_len]; omega
  exact ⟨hh, by rw [hlen], hS, hPl, lQ, by rw [hlen]; exact cP, by rw [hlen]; exact cQ, sP, sQ, by rw [hlen]; exact h2, h.bel.trans (h.hi.low on)⟩
theorem FiS.undo0 {w W : World} {g M : Nat} {vb va : Value} {H : Hs} {s : ByteArray} {cs : List (List UInt8)} (h : FiS w W g vb va H s cs M) (hF : H.back = []) :
    Calls Tryd.prog 19 #[.pointer (some ⟨g, 0, none⟩), .string s] W fun r w' => r = .returned (.tuple #[.slice none 0 0, .int .i64 160]) ∧ Below W.heap.size W w' := undo_none w.heap.size g vb va H s W h.hi hF
theorem FiS.redo {w W : World} {g M : Nat} {vb va : Value} {H : Hs} {s : ByteArray} {cs : List (List UInt8)} {P : List Pe} {p : Pe} (h : FiS w W g vb va H s cs M) (hU : ∀ W, Below w.heap.size w W → UT W) (hM : M ≤ 1048576) (hF : H.again = P ++ [p]) :
    IsEd p.l cs.length (At.toN (atomsL p.l)) ∧ Calls Tryd.prog 21 #[.pointer (some ⟨g, 0, none⟩), .string s] W fun r w' => StepS w g M p.v p.l cs (fun H' => H'.again = P ∧ ∃ q, H'.back = pushP H.back q ∧ atomsL q.l = At.can (At.inv (atomsL p.l) cs)) r w' := by
  have hm0 := h.m
  have hp := h.hi.ea p (by rw [hF]; exact List.mem_append.2 (.inr (by simp)))
  have ha : ats H.again = atomsL p.l :: ats P := by rw [hF]; simp [ats]
  have hc := h.ca
  rw [ha] at hc
  have hs := h.sa
  rw [ha] at hs
  have hs1 := hs _ (List.mem_cons_self ..)
  have hed : IsEd p.l cs.length (At.toN (atomsL p.l)) := ⟨hp.nf, hc.1, rfl, by omega, by have := hs1.2; omega⟩
  refine ⟨hed, ?_⟩
  obtain ⟨t, ht⟩ : ∃ t, At.toN (atomsL p.l) = t := ⟨_, rfl⟩
  rw [ht] at hed
  have hPl : P.length ≤ 50 := by have := h.la; rw [hF, List.length_append] at this; omega
  refine Calls.mono (redo_ok w.heap.size g t vb va H P p s cs W h.hi (fun W' hW => hU W' (h.bel.trans hW)) hF (by omega) h.lb h.tx hed h.n (by omega) (by have := hs1.2; omega)) ?_
  intro r w' hr
  obtain ⟨q, vb', va', rfl, at', pq, pp, hh, on⟩ := hr.shape
  obtain ⟨a, c, hv, E⟩ := pp.edit hed (by have := hs1.2; omega)
  have hi := inv_from hed.2.1.symm
  rw [← at', hed.2.2.1] at hi
  have hlen : (At.app (atomsL p.l) cs).length = t := by rw [At.app_len _ _ hed.2.1.symm]; exact hed.2.2.1
  have h2 := hs1.2
  rw [ht] at h2
  refine ⟨vb', va', ⟨t, pushP H.back q, P⟩, a, c, rfl, hv, E, ⟨rfl, q, rfl, at'⟩, h.bel.trans (h.hi.low on), fun S hS => ?_⟩
  have cP : Chain t (ats P) := by rw [← ht]; exact hc.2
  have sP : Sz M (ats P) := fun x hx => hs x (List.mem_cons_of_mem _ hx)
  have cQ : Chain t (ats (pushP H.back q)) := Chain.push h.cb hi.1 hi.2
  have sQ : Sz M (ats (pushP H.back q)) := Sz.push h.sb (by rw [hi.1]; exact h2) (by rw [hi.2]; exact hm0)
  have lQ : (pushP H.back q).length ≤ 50 := by rw [pushP_len]; omega
  exact ⟨hh, by rw [hlen], hS, lQ, hPl, by rw [hlen]; exact cQ, by rw [hlen]; exact cP, sQ, sP, by rw [hlen]; exact h2, h.bel.trans (h.hi.low on)⟩
theorem FiS.redo0 {w W : World} {g M : Nat} {vb va : Value} {H : Hs} {s : ByteArray} {cs : List (List UInt8)} (h : FiS w W g vb va H s cs M) (hF : H.again = []) :
    Calls Tryd.prog 21 #[.pointer (some ⟨g, 0, none⟩), .string s] W fun r w' => r = .returned (.tuple #[.slice none 0 0, .int .i64 160]) ∧ Below W.heap.size W w' := redo_none w.heap.size g vb va H s W h.hi hF
theorem FiS.begun {w W : World} {g : Nat} {vb va : Value} {s : ByteArray} {cs : List (List UInt8)} {M : Nat} (hh : Hi W w.heap.size g vb va ⟨(cs.length : Int), [], []⟩) (hx : Tx s cs) (hm : cs.length ≤ M) (hb : Below w.heap.size w W) : FiS w W g vb va ⟨(cs.length : Int), [], []⟩ s cs M :=
  ⟨hh, rfl, hx, by simp, by simp, Chain.none _, Chain.none _, Sz.none _, Sz.none _, hm, hb⟩
end Go.Proofs.YtihiengejpjbkaaDoor
