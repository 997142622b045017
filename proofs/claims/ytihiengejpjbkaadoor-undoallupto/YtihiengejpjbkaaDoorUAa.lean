/- UndoAll, where what comes in is of bulk at most 2^20. -/
import Derived.Test.YtihiengejpjbkaaDoorUSt
namespace Go.Proofs.YtihiengejpjbkaaDoor
set_option linter.unusedVariables false
set_option linter.unusedSimpArgs false
open Go.ChangeShapes Go.WideShapes Go.ChangeAt Go.RowKit Go.Joins Go.Deep

def Keep9 (W w' : World) : Prop := ∀ (B n : Nat) (v : Value) (xs : List Value), W.ownsRow B 9 1 v n xs → w'.ownsRow B 9 1 v n xs
def MineK (w W : World) (g M : Nat) (l : List Pt) (cs : List (List UInt8)) (q : Hs → Prop) (r : Ending) (w' : World) : Prop := ∃ vb va H, r = .returned (.int .i64 0) ∧ Keep9 W w' ∧ q H ∧ ∀ S, Tx S (At.app (atomsL l) cs) → FiS w w' g vb va H S (At.app (atomsL l) cs) M
theorem MineK.shape {w W : World} {g M : Nat} {l : List Pt} {cs : List (List UInt8)} {q : Hs → Prop} {r : Ending} {w' : World} (h : MineK w W g M l cs q r w') : ∃ vb va H, r = .returned (.int .i64 0) ∧ Keep9 W w' ∧ q H ∧ ∀ S, Tx S (At.app (atomsL l) cs) → FiS w w' g vb va H S (At.app (atomsL l) cs) M := h
def StepK (w W : World) (g M : Nat) (v : Value) (l : List Pt) (cs : List (List UInt8)) (q : Hs → Prop) (r : Ending) (w' : World) : Prop := StepS w g M v l cs q r w' ∧ Keep9 W w'
theorem StepK.shape {w W : World} {g M : Nat} {v : Value} {l : List Pt} {cs : List (List UInt8)} {q : Hs → Prop} {r : Ending} {w' : World} (h : StepK w W g M v l cs q r w') : StepS w g M v l cs q r w' ∧ Keep9 W w' := h
theorem FiS.mineK {w W : World} {g M m t c : Nat} {a : Option Addr} {l : List Pt} {vb va : Value} {H : Hs} {s : ByteArray} {cs : List (List UInt8)} (h : FiS w W g vb va H s cs M) (hT : UT W) (he : Edit W a l c) (hm : l.length = m) (hed : IsEd l cs.length t) (hM : M + sumT l ≤ 1048576) (hl : m ≤ 1099511627776) :
    Calls Tryd.prog 15 #[.pointer (some ⟨g, 0, none⟩), .slice a m c, .string s] W fun r w' => MineK w W g (M + sumT l) l cs (fun H9 => H9.again = [] ∧ ∃ q, H9.back = pushP H.back q ∧ atomsL q.l = At.can (At.inv (atomsL l) cs)) r w' := by
  have ht := ed_to hed
  have hm0 := h.m
  refine Calls.mono (mine_ok w.heap.size g m t vb va H a l c s cs W h.hi hT he hm h.tx hed h.n (by omega) h.lb hl) ?_
  intro r w' hr
  obtain ⟨p, vb', rfl, at', pk, hh, on⟩ := hr.shape
  have hi := inv_from hed.2.1.symm
  rw [← at', hed.2.2.1] at hi
  have hlen : (At.app (atomsL l) cs).length = t := by rw [At.app_len _ _ hed.2.1.symm]; exact hed.2.2.1
  refine ⟨vb', _, ⟨t, pushP H.back p, []⟩, rfl, fun B n v xs h9 => own_only h9 on (fun k hk hp => by rcases hp with rfl | hp | hp; exact tag_ne h9 h.hi.row (by decide) hk; exact own_ne h9 h.hi.ob (by decide) k hk hp; exact own_ne h9 h.hi.oa (by decide) k hk hp), ⟨rfl, p, rfl, at'⟩, fun S hS => ⟨hh, by rw [hlen], hS, by show (pushP H.back p).length ≤ 50; rw [pushP_len]; omega, by simp, ?_, Chain.none _, ?_, Sz.none _, by rw [hlen]; omega, h.bel.trans (h.hi.low on)⟩⟩
  · rw [hlen]
    exact Chain.push h.cb hi.1 hi.2
  · exact Sz.push (h.sb.mono (Nat.le_add_right _ _)) (by rw [hi.1]; omega) (by rw [hi.2]; omega)
theorem FiS.undoK {w W : World} {g M : Nat} {vb va : Value} {H : Hs} {s : ByteArray} {cs : List (List UInt8)} {P : List Pe} {p : Pe} (h : FiS w W g vb va H s cs M) (hU : ∀ W, Below w.heap.size w W → UT W) (hM : M ≤ 1048576) (hF : H.back = P ++ [p]) :
    IsEd p.l cs.length (At.toN (atomsL p.l)) ∧ Calls Tryd.prog 19 #[.pointer (some ⟨g, 0, none⟩), .string s] W fun r w' => StepK w W g M p.v p.l cs (fun H' => H'.back = P ∧ ∃ q, H'.again = pushP H.again q ∧ atomsL q.l = At.can (At.inv (atomsL p.l) cs)) r w' := by
  have hm0 := h.m
  have hp := h.hi.eb p (by rw [hF]; exact List.mem_append.2 (.inr (by simp)))
  have ha : ats H.back = atomsL p.l :: ats P := by rw [hF]; simp [ats]
  have hc := h.cb
  rw [ha] at hc
  have hs := h.sb
  rw [ha] at hs
  have hs1 := hs _ (List.mem_cons_self ..)
  have hed : IsEd p.l cs.length (At.toN (atomsL p.l)) := ⟨hp.nf, hc.1, rfl, by omega, by have := hs1.2; omega⟩
  refine ⟨hed, ?_⟩
  obtain ⟨t, ht⟩ : ∃ t, At.toN (atomsL p.l) = t := ⟨_, rfl⟩
  rw [ht] at hed
  have hPl : P.length ≤ 50 := by have := h.lb; rw [hF, List.length_append] at this; omega
  refine Calls.mono (undo_ok w.heap.size g t vb va H P p s cs W h.hi (fun W' hW => hU W' (h.bel.trans hW)) hF (by omega) h.la h.tx hed h.n (by omega) (by have := hs1.2; omega)) ?_
  intro r w' hr
  obtain ⟨q, vb', va', rfl, at', pq, pp, hh, on⟩ := hr.shape
  obtain ⟨a, c, hv, E⟩ := pp.edit hed (by have := hs1.2; omega)
  have hi := inv_from hed.2.1.symm
  rw [← at', hed.2.2.1] at hi
  have hlen : (At.app (atomsL p.l) cs).length = t := by rw [At.app_len _ _ hed.2.1.symm]; exact hed.2.2.1
  have h2 := hs1.2
  rw [ht] at h2
  refine ⟨⟨vb', va', ⟨t, P, pushP H.again q⟩, a, c, rfl, hv, E, ⟨rfl, q, rfl, at'⟩, h.bel.trans (h.hi.low on), fun S hS => ?_⟩, fun B n v xs h9 => own_only h9 on (fun k hk hp => by rcases hp with rfl | hp | hp; exact tag_ne h9 h.hi.row (by decide) hk; exact own_ne h9 h.hi.ob (by decide) k hk hp; exact own_ne h9 h.hi.oa (by decide) k hk hp)⟩
  have cP : Chain t (ats P) := by rw [← ht]; exact hc.2
  have sP : Sz M (ats P) := fun x hx => hs x (List.mem_cons_of_mem _ hx)
  have cQ : Chain t (ats (pushP H.again q)) := Chain.push h.ca hi.1 hi.2
  have sQ : Sz M (ats (pushP H.again q)) := Sz.push h.sa (by rw [hi.1]; exact h2) (by rw [hi.2]; exact hm0)
  have lQ : (pushP H.again q).length ≤ 50 := by rw [pushP_len]; omega
  exact ⟨hh, by rw [hlen], hS, hPl, lQ, by rw [hlen]; exact cP, by rw [hlen]; exact cQ, sP, sQ, by rw [hlen]; exact h2, h.bel.trans (h.hi.low on)⟩
theorem FiS.redoK {w W : World} {g M : Nat} {vb va : Value} {H : Hs} {s : ByteArray} {cs : List (List UInt8)} {P : List Pe} {p : Pe} (h : FiS w W g vb va H s cs M) (hU : ∀ W, Below w.heap.size w W → UT W) (hM : M ≤ 1048576) (hF : H.again = P ++ [p]) :
    IsEd p.l cs.length (At.toN (atomsL p.l)) ∧ Calls Tryd.prog 21 #[.pointer (some ⟨g, 0, none⟩), .string s] W fun r w' => StepK w W g M p.v p.l cs (fun H' => H'.again = P ∧ ∃ q, H'.back = pushP H.back q ∧ atomsL q.l = At.can (At.inv (atomsL p.l) cs)) r w' := by
  have hm0 := h.m
  have hp := h.hi.ea p (by rw [hF]; exact List.mem_append.2 (.inr (by simp)))
  have ha : ats H.again = atomsL p.l :: ats P := by rw [hF]; simp [ats]
  have hc := h.ca
  rw [ha] at hc
  have hs := h.sa
  rw [ha] at hs
  have hs1 := hs _ (List.mem_cons_self ..)
  have hed : IsEd p.l cs.length (At.toN (atomsL p.l)) := ⟨hp.nf, hc.1, rfl, by omega, by have := hs1.2; omega⟩
  refine ⟨hed, ?_⟩
  obtain ⟨t, ht⟩ : ∃ t, At.toN (atomsL p.l) = t := ⟨_, rfl⟩
  rw [ht] at hed
  have hPl : P.length ≤ 50 := by have := h.la; rw [hF, List.length_append] at this; omega
  refine Calls.mono (redo_ok w.heap.size g t vb va H P p s cs W h.hi (fun W' hW => hU W' (h.bel.trans hW)) hF (by omega) h.lb h.tx hed h.n (by omega) (by have := hs1.2; omega)) ?_
  intro r w' hr
  obtain ⟨q, vb', va', rfl, at', pq, pp, hh, on⟩ := hr.shape
  obtain ⟨a, c, hv, E⟩ := pp.edit hed (by have := hs1.2; omega)
  have hi := inv_from hed.2.1.symm
  rw [← at', hed.2.2.1] at hi
  have hlen : (At.app (atomsL p.l) cs).length = t := by rw [At.app_len _ _ hed.2.1.symm]; exact hed.2.2.1
  have h2 := hs1.2
  rw [ht] at h2
  refine ⟨⟨vb', va', ⟨t, pushP H.back q, P⟩, a, c, rfl, hv, E, ⟨rfl, q, rfl, at'⟩, h.bel.trans (h.hi.low on), fun S hS => ?_⟩, fun B n v xs h9 => own_only h9 on (fun k hk hp => by rcases hp with rfl | hp | hp; exact tag_ne h9 h.hi.row (by decide) hk; exact own_ne h9 h.hi.ob (by decide) k hk hp; exact own_ne h9 h.hi.oa (by decide) k hk hp)⟩
  have cP : Chain t (ats P) := by rw [← ht]; exact hc.2
  have sP : Sz M (ats P) := fun x hx => hs x (List.mem_cons_of_mem _ hx)
  have cQ : Chain t (ats (pushP H.back q)) := Chain.push h.cb hi.1 hi.2
  have sQ : Sz M (ats (pushP H.back q)) := Sz.push h.sb (by rw [hi.1]; exact h2) (by rw [hi.2]; exact hm0)
  have lQ : (pushP H.back q).length ≤ 50 := by rw [pushP_len]; omega
  exact ⟨hh, by rw [hlen], hS, lQ, hPl, by rw [hlen]; exact cQ, by rw [hlen]; exact cP, sQ, sP, by rw [hlen]; exact h2, h.bel.trans (h.hi.low on)⟩
def tb (c : List (List UInt8)) : ByteArray := ⟨c.flatten.toArray⟩
def tS (P : List (List (List UInt8))) : List Value := P.map (fun c => .string (tb c))
theorem tS_len (P : List (List (List UInt8))) : (tS P).length = P.length := by simp [tS]
theorem tS_at {P : List (List (List UInt8))} {i : Nat} {c : List (List UInt8)} (h : P[i]? = some c) : (tS P)[i]? = some (.string (tb c)) := by simp [tS, h]
theorem Tx.tb {s : ByteArray} {c : List (List UInt8)} (h : Tx s c) : s = tb c := h.bytes
theorem infoSt : ∃ i, Tryd.prog.info? 9 = some i ∧ i.zero = some (.string ⟨#[]⟩) ∧ i.size = 1 ∧ i.bytes = 16 := by
  have h : (Tryd.prog.info? 9).map (fun i => (i.zero, i.size, i.bytes)) = some (some (.string ⟨#[]⟩), 1, 16) := by kernel_rfl
  obtain ⟨i, h1, h2⟩ := Option.map_eq_some_iff.1 h
  simp at h2
  exact ⟨i, h1, h2.1, h2.2.1, h2.2.2⟩
theorem own_rd {w : World} {B e n : Nat} {v : Value} {xs : List Value} (h : w.ownsRow B e 1 v n xs) {i : Nat} {u : Value} (hu : xs[i]? = some u) : ∃ g c, v = .slice (some ⟨g, 0, none⟩) n c ∧ w.cell? ⟨g, i, none⟩ = some u ∧ i < n ∧ n ≤ c ∧ c ≤ maxLen := by
  have hlt := (List.getElem?_eq_some_iff.1 hu).1
  rw [h.1, Nat.mul_one] at hlt
  rcases h.2 with ⟨_, h0⟩ | ⟨g, cap, cur, rfl, e2, e3, e4, e5, e6, e7⟩
  · omega
  · refine ⟨g, cap, rfl, ?_, hlt, e4, e5⟩
    have := World.ownsRow.cells h (g := g) rfl i u hu
    simpa [Addr.add_lit] using this
theorem own_row {w : World} {B e g : Nat} {xs : List Value} (h : RowAt w g e xs) (hB : B ≤ g) (hm : xs.length ≤ maxLen) : w.ownsRow B e 1 (.slice (some ⟨g, 0, none⟩) xs.length xs.length) xs.length xs :=
  ⟨by simp, .inr ⟨g, xs.length, xs.toArray, rfl, hB, h, Nat.le_refl _, hm, by simp, by simp⟩⟩
/-- edits, the last one first, that lead from text to text -/
def Tr : List (List At) → List (List (List UInt8)) → Prop
  | [], [_] => True
  | x :: r, c :: d :: q => At.fromN x = c.length ∧ At.app x c = d ∧ Tr r (d :: q)
  | _, _ => False
theorem Tr.len : ∀ {a : List (List At)} {c : List (List UInt8)} {q : List (List (List UInt8))}, Tr a (c :: q) → a.length = q.length
  | [], c, [], _ => rfl
  | [], c, d :: q, h => by cases h
  | x :: r, c, [], h => by cases h
  | x :: r, c, d :: q, h => by rw [List.length_cons, List.length_cons, Tr.len h.2.2]
theorem Tr.push {P : List Pe} {p : Pe} {c d : List (List UInt8)} {q : List (List (List UInt8))} (h : Tr (ats P) (d :: q)) (h1 : At.fromN (atomsL p.l) = c.length) (h2 : At.app (atomsL p.l) c = d) (hl : P.length + 1 ≤ 50) : Tr (ats (pushP P p)) (c :: d :: q) := by
  rw [ats_push, List.take_of_length_le (by rw [List.length_cons, ats_len]; omega)]
  exact ⟨h1, h2, h⟩
def A1 (w W : World) (g : Nat) (tv : Value) (cs : List (List UInt8)) (past : List (List (List UInt8))) (M : Nat) : Prop := ∃ vb va H, FiS w W g vb va H (tb cs) cs M ∧ Tr (ats H.back) (cs :: past) ∧ H.again = [] ∧ W.ownsRow w.heap.size 9 1 tv (past.length + 1) (tS ((cs :: past).reverse))
theorem A1.shape {w W : World} {g : Nat} {tv : Value} {cs : List (List UInt8)} {past : List (List (List UInt8))} {M : Nat} (h : A1 w W g tv cs past M) : ∃ vb va H, FiS w W g vb va H (tb cs) cs M ∧ Tr (ats H.back) (cs :: past) ∧ H.again = [] ∧ W.ownsRow w.heap.size 9 1 tv (past.length + 1) (tS ((cs :: past).reverse)) := h
def A2 (w W : World) (g : Nat) (tv : Value) (P0 : List (List (List UInt8))) (cs : List (List UInt8)) (past fut : List (List (List UInt8))) (M : Nat) : Prop := ∃ vb va H, FiS w W g vb va H (tb cs) cs M ∧ Tr (ats H.back) (cs :: past) ∧ Tr (ats H.again) (cs :: fut) ∧ past.reverse ++ cs :: fut = P0 ∧ W.ownsRow w.heap.size 9 1 tv P0.length (tS P0)
theorem A2.shape {w W : World} {g : Nat} {tv : Value} {P0 : List (List (List UInt8))} {cs : List (List UInt8)} {past fut : List (List (List UInt8))} {M : Nat} (h : A2 w W g tv P0 cs past fut M) : ∃ vb va H, FiS w W g vb va H (tb cs) cs M ∧ Tr (ats H.back) (cs :: past) ∧ Tr (ats H.again) (cs :: fut) ∧ past.reverse ++ cs :: fut = P0 ∧ W.ownsRow w.heap.size 9 1 tv P0.length (tS P0) := h
theorem pile_cases (P : List Pe) : P = [] ∨ ∃ Q p, P = Q ++ [p] := by
  rcases List.eq_nil_or_concat P with h | ⟨Q, p, h⟩
  · exact .inl h
  · exact .inr ⟨Q, p, by rw [h]; simp⟩
theorem FiS.text {w W W' : World} {g M n : Nat} {vb va v : Value} {H : Hs} {s : ByteArray} {cs : List (List UInt8)} {xs : List Value} (h : FiS w W g vb va H s cs M) (hr : W.ownsRow w.heap.size 9 1 v n xs) (ho : Only (fun k => v.ownBlock = some k) W W') : FiS w W' g vb va H s cs M :=
  ⟨⟨h.hi.row.only ho (fun e => tag_ne hr h.hi.row (by decide) e), own_only h.hi.ob ho (fun k hk hp => own_ne h.hi.ob hr (by decide) k hk hp), own_only h.hi.oa ho (fun k hk hp => own_ne h.hi.oa hr (by decide) k hk hp), h.hi.sep, fun p hp => (h.hi.eb p hp).keep ho (fun k hk hq => own_ne (h.hi.eb p hp).own hr (by decide) k hk hq), fun p hp => (h.hi.ea p hp).keep ho (fun k hk hq => own_ne (h.hi.ea p hp).own hr (by decide) k hk hq), h.hi.gB⟩, h.n, h.tx, h.lb, h.la, h.cb, h.ca, h.sb, h.sa, h.m, h.bel.trans (ho.below h.bel.size (fun k hk => (hr.lt k hk).1))⟩
theorem row_cell {w : World} {B e n g c : Nat} {xs : List Value} (h : w.ownsRow B e 1 (.slice (some ⟨g, 0, none⟩) n c) n xs) {i : Nat} {u : Value} (hu : xs[i]? = some u) : w.cell? ⟨g, i, none⟩ = some u := by
  have := World.ownsRow.cells h (g := g) rfl i u hu
  simpa [Addr.add_lit] using this
theorem inv_back {x : List At} {cs : List (List UInt8)} (h : cs.length = At.fromN x) : At.app (At.can (At.inv x cs)) (At.app x cs) = cs := by rw [At.app_can, At.inv_app _ _ h]
theorem Tr.one (c : List (List UInt8)) : Tr (ats []) [c] := by simp [ats, Tr]
set_option maxRecDepth 100000 in
set_option maxHeartbeats 4000000 in
theorem all_law (s : ByteArray) (a0 : Option Addr) (L : List Dl) (c0 : Nat) (w : World) (hT : UT w) (hD : Dos w a0 L) (hc : L.length ≤ c0) (hm : c0 ≤ maxLen) (hk : s.size + sumD L ≤ 1048576) : Calls Tryd.prog 6 #[.string s, .slice a0 L.length c0] w fun r w' => r = .returned (.bool true) ∧ Below w.heap.size w w' := by
  have HU : Hid (∀ W, Below w.heap.size w W → UT W) := hide (fun W h => hT.call h)
  have KS := hide (short_any s a0 L c0 w hD hc hm)
  have HDO := hide hD
  have HK := hide hk
  have hs0 : s.size ≤ 1048576 := by omega
  have HS0 := hide hs0
  obtain ⟨n, hn⟩ : ∃ n, L.length = n := ⟨_, rfl⟩
  rw [hn] at hc KS ⊢
  have HN0 := hide hn
  unfold maxLen at hm
  have hnI : (n : Int) ≤ 9223372036854775807 := by omega
  clear hT hD hn hk hs0
  go_enter Tryd.func6, Tryd.ntmps6
  go_wp2_with fail
  refine Calls.mono (unhide KS) ?_
  rintro r w1 ⟨⟨bb, rfl, hsh⟩, b1⟩
  have B1 := hide b1
  have HSH := hide hsh
  clear b1 KS hsh
  cases bb with
  | false =>
    go_wp2_with fail
    refine Calls.mono (awake_any _ (unhide HU _ (unhide B1))) ?_
    rintro r wa ⟨rfl, hba⟩
    have HBa := hide ((unhide B1).trans (hba.mono (unhide B1).size))
    clear hba
    go_wp2_with fail
    go_ret
    exact ⟨rfl, unhide HBa⟩
  | true =>
    by_cases h50 : (50 : Int) < (n : Int)
    · go_wp2_with fail
      refine Calls.mono (awake_any _ (unhide HU _ (unhide B1))) ?_
      rintro r wa ⟨rfl, hba⟩
      have HBa := hide ((unhide B1).trans (hba.mono (unhide B1).size))
      clear hba
      go_wp2_with fail
      go_ret
      exact ⟨rfl, unhide HBa⟩
    have KV := hide (valid_any s w1 (unhide HU _ (unhide B1)) (by have := unhide HS0; omega))
    cases hv : Lib.validD s.data.toList with
    | false =>
      rw [hv] at KV
      clear hv
      go_wp2_with fail
      refine Calls.mono (unhide KV) ?_
      rintro r w2 ⟨rfl, b2⟩
      have B2 := hide ((unhide B1).trans (b2.mono (unhide B1).size))
      clear b2 KV
      go_wp2_with fail
      refine Calls.mono (awake_any _ (unhide HU _ (unhide B2))) ?_
      rintro r wa ⟨rfl, hba⟩
      have HBa := hide ((unhide B2).trans (hba.mono (unhide B2).size))
      clear hba
      go_wp2_with fail
      go_ret
      exact ⟨rfl, unhide HBa⟩
    | true =>
      obtain ⟨cs0, hx0⟩ := tx_of_valid hv
      rw [hv] at KV
      have HX0 := hide hx0
      have H100 : Hid (∀ d ∈ L, d.l.length ≤ 100) := hide (unhide HSH rfl).2.2.1
      have hfew := hx0.few
      have HFEW := hide hfew
      have HSTB := hide hx0.tb
      clear hv hx0 HSH hc hm hfew
      go_wp2_with fail
      refine Calls.mono (unhide KV) ?_
      rintro r w2 ⟨rfl, b2⟩
      have B2 := hide ((unhide B1).trans (b2.mono (unhide B1).size))
      clear b2 KV
      go_wp2_with fail
      refine Calls.mono (begun_any s w2 (by have := unhide HS0; omega) (by rw [(unhide HX0).count]; have := unhide HFEW; have := unhide HS0; omega)) ?_
      intro r w4 h4
      obtain ⟨g, vb, va, rfl, hh, b4⟩ := h4.shape
      rw [(unhide HX0).count] at hh
      have hal : Below w4.heap.size w4 (w4.alloc (.cells #[.string s] 9)) := (Below.refl _ _).alloc (Nat.le_refl _) _
      have b24 := (unhide B2).trans (b4.mono (unhide B2).size)
      have hstb := unhide HSTB
      have F4 : Hid (A1 w (w4.alloc (.cells #[.string s] 9)) g (.slice (some ⟨w4.heap.size, 0, none⟩) 1 1) cs0 [] (Mk s L 0)) := hide ⟨vb, va, _, by rw [← hstb]; exact (FiS.begun (hh.base (unhide B2).size) (unhide HX0) (by have := unhide HFEW; simp [Mk, sumD]; omega) b24).call hal, by simp [ats, Tr], rfl, by
        have h9 := own_row (B := w.heap.size) (RowAt.new w4 9 [.string s]) b24.size (by simp [maxLen])
        simpa [tS, ← hstb] using h9⟩
      clear h4 hh b4 B1 B2 hal b24 hstb
      go_wp2_with fail
      go_loopw [0, 6, 41] (fun sv tv i wr => ∃ (k : Nat) (cs : List (List UInt8)) (past : List (List (List UInt8))) (ta : Option Addr) (tc : Nat), k ≤ n ∧ i = .int .i64 (k : Int) ∧ sv = .string (tb cs) ∧ tv = .slice ta (past.length + 1) tc ∧ past.length ≤ k ∧ Hid (A1 w wr g (.slice ta (past.length + 1) tc) cs past (Mk s L k))) (fun _ _ i _ => ((n : Int) - intOf i).toNat)
      case atStart => exact ⟨0, cs0, [], _, _, by omega, by simp, by rw [← unhide HSTB], rfl, by simp, F4⟩
      case round =>
        clear F4
        obtain ⟨k, cs, past, ta, tc, hk, rfl, rfl, rfl, hpk, HM⟩ := hrel
        obtain ⟨sk, hsk⟩ : ∃ z, tb cs = z := ⟨_, rfl⟩
        obtain ⟨pl, hpl⟩ : ∃ z, past.length = z := ⟨_, rfl⟩
        rw [hpl] at hpk HM ⊢
        rw [hsk]
        have HSKE := hide hsk
        have HPL := hide hpl
        by_cases c1 : (k : Int) < (n : Int)
        · obtain ⟨vb, va, H, hF, htr, hag, hrw⟩ := (unhide HM).shape
          rw [hpl] at hrw
          rw [hsk] at hF
          obtain ⟨d, hd⟩ : ∃ d, L[k]? = some d := ⟨_, List.getElem?_eq_getElem (by rw [unhide HN0]; omega)⟩
          have hx := ((unhide HDO).call hF.bel).2
          rcases hx with h0 | ⟨b, off, rfl, hlt, hx⟩
          · exfalso; rw [h0] at hd; simp at hd
          have q0 : wr.cell? ⟨b, off + k * 3, none⟩ = some (.int .i64 d.op) := hx k d hd 0 _ rfl
          have q1 : wr.cell? ⟨b, off + k * 3 + 1, none⟩ = some (.int .i64 d.n) := hx k d hd 1 _ rfl
          have q2 : wr.cell? ⟨b, off + k * 3 + 2, none⟩ = some (.slice d.a d.l.length d.c) := hx k d hd 2 _ rfl
          have hmem := List.mem_of_getElem? hd
          have HMK := hide (Mk_next (s := s) hd)
          have HMB : Hid (Mk s L k + sumT d.l ≤ 1048576) := hide (by have h1 := Mk_next (s := s) hd; have h2 := Mk_le s L (k + 1); have h3 := unhide HK; omega)
          have H1 := hide ((unhide H100) d hmem)
          have HED : Hid (∀ W, Below w.heap.size w W → Edit W d.a d.l d.c) := hide (fun W hW => ((unhide HDO).1 d hmem).call hW)
          have HSK : Hid (sk.size ≤ 281474976710656) := hide (hF.tx.small rfl (by have := hF.m; have := unhide HMB; omega))
          have k0 : (0 : Int) ≤ (k : Int) := by omega
          have hal : Below wr.heap.size wr (wr.alloc (.cells #[.int .i64 d.op, .int .i64 d.n, .slice d.a d.l.length d.c] 34)) := (Below.refl _ _).alloc (Nat.le_refl _) _
          have hF := hF.call hal
          have hrw := own_call hrw hal
          obtain ⟨m, hmm⟩ : ∃ z, d.l.length = z := ⟨_, rfl⟩
          rw [hmm] at q2 H1 hF hrw
          have HN := hide hmm
          have HTR := hide (And.intro htr hag)
          have BW := hide hF.bel
          have FK := hide hF
          have HRW := hide hrw
          have HX := hide hF.tx
          have HE := hide (unhide HED _ hF.bel)
          have hrow := RowAt.new wr 34 [.int .i64 d.op, .int .i64 d.n, .slice d.a m d.c]
          have HR := hide hrow
          clear HM hd hx hmem hlt hal hmm hF hrw htr hag hrow hsk hpl
          go_wp2_with fail
          refine Calls.mono (apply_at sk (unhide HU _ (unhide BW)) (unhide HE) (unhide HN) (unhide HSK) (Below.refl _ _)) ?_
          rintro r w3 ⟨h3, b3⟩
          have F3 := hide ((unhide FK).call b3)
          have R3 := hide (own_call (unhide HRW) b3)
          have E3 := hide ((unhide HE).call b3)
          have q3 := ((unhide HR).below b3 (unhide HR).lt).cell 2
          simp only [List.getElem?_cons_zero, List.getElem?_cons_succ] at q3
          clear b3 FK HE BW HR HRW
          rcases h3 with ⟨h3, rfl⟩ | ⟨h3, S3, c3, x3, y3, rfl⟩
          · clear h3
            go_wp2_with fail
            exact ⟨⟨k + 1, cs, past, _, _, by omega, by simp, by rw [unhide HSKE], by rw [unhide HPL], by rw [unhide HPL]; omega, hide ⟨_, _, _, by rw [unhide HSKE]; exact (unhide F3).mono (by rw [unhide HMK]; omega), (unhide HTR).1, (unhide HTR).2, by rw [unhide HPL]; exact unhide R3⟩⟩, by simp [intOf]; omega⟩
          · obtain ⟨c4, t, x4, hed⟩ := isOf_ed h3
            obtain rfl : c4 = cs := x4.inj (unhide HX)
            obtain rfl : c3 = c4 := x3.inj (unhide HX)
            have HD := hide hed
            have HY := hide y3
            clear h3 x3 y3 x4 hed
            go_wp2_with fail
            refine Calls.mono ((unhide F3).mineK (unhide HU _ (unhide F3).bel) (unhide E3) (unhide HN) (unhide HD) (unhide HMB) (by have := unhide H1; omega)) ?_
            intro r w5 h5
            obtain ⟨vb5, va5, H5, rfl, hkeep, hq5, hF5⟩ := h5.shape
            have F5 := hide (hF5 S3 (unhide HY))
            have R5 := hide (hkeep _ _ _ _ (unhide R3))
            have Q5 := hide hq5
            clear h5 hkeep hq5 hF5 R3 E3 F3
            go_wp2_with (at_builtin; refine unhide ?_)
            have b6 : Below w5.heap.size w5 (w5.alloc (.cells #[.string S3] 9)) := (Below.refl _ _).alloc (Nat.le_refl _) _
            have hF6 := (unhide F5).call b6
            have hR6 := own_call (unhide R5) b6
            have hC6 := (RowAt.new w5 9 [.string S3]).cell 0
            have F6 := hide hF6
            have R6 := hide hR6
            have C6 := hide hC6
            clear b6 hF6 hR6 hC6 R5 F5
            obtain ⟨i9, hi9, hz9, hs9, hb9⟩ := infoSt
            refine hide ?_
            refine wpList_append_own_at _ rfl _ _ 60 rfl w.heap.size 9 i9 (.string ⟨#[]⟩) 1 16 Tryd.underlying60 hi9 hz9 hs9 hb9 rfl (by decide) (.slice ta (pl + 1) tc) (pl + 1) (tS ((c3 :: past).reverse)) rfl (unhide R6) ⟨w5.heap.size, 0, none⟩ 1 1 [.string S3] rfl rfl (fun j u hj => by
              match j, hj with
              | 0, hj =>
                obtain rfl : (.string S3 : Value) = u := by simpa using hj
                exact unhide C6) (fun u hu => by rw [List.mem_singleton] at hu; rw [hu]; rfl) (by unfold maxLen; omega) (by omega) (unhide F6).bel.size ?_
            intro v' w7 ho hg _ hat
            have o7 := grown_only hg
            have F7 := hide ((unhide F6).text (unhide R6) o7)
            obtain ⟨a7, c7, rfl⟩ := pl_one ho
            have R7 := hide ho
            clear ho hg hat o7 F6 R6 C6 i9 hi9 hz9 hs9 hb9
            go_wp2_with fail
            have hS3 : S3 = tb (At.app (atomsL d.l) c3) := (unhide HY).tb
            have hlen : (At.app (atomsL d.l) c3).length = t := by rw [At.app_len _ _ (unhide HD).2.1.symm]; exact (unhide HD).2.2.1
            obtain ⟨hga, q, hqb, hqa⟩ := unhide Q5
            have hbl : H.back.length = pl := by have := (unhide HTR).1.len; rw [ats_len] at this; rw [this, unhide HPL]
            exact ⟨⟨k + 1, At.app (atomsL d.l) c3, c3 :: past, _, _, by omega, by simp, by rw [← hS3], by rw [List.length_cons, unhide HPL], by rw [List.length_cons, unhide HPL]; omega, hide ⟨_, _, _, by rw [← hS3, unhide HMK]; exact unhide F7, by
              rw [hqb]
              exact Tr.push (unhide HTR).1 (by rw [hqa, (inv_from (unhide HD).2.1.symm).1, (unhide HD).2.2.1, hlen]) (by rw [hqa, inv_back (unhide HD).2.1.symm]) (by omega), hga, by
              have h9 := unhide R7
              rw [List.length_cons, unhide HPL, List.reverse_cons]
              rw [hS3] at h9
              simpa [tS] using h9⟩⟩, by simp [intOf]; omega⟩
        · obtain ⟨vb, va, H, hF, htr, hag, hrw⟩ := (unhide HM).shape
          rw [hpl] at hrw
          obtain ⟨P0, hP0⟩ : ∃ z, (cs :: past).reverse = z := ⟨_, rfl⟩
          have hPl : P0.length = pl + 1 := by rw [← hP0, List.length_reverse, List.length_cons, hpl]
          rw [hP0] at hrw
          obtain ⟨p00, hp00⟩ : ∃ z, P0[0]? = some z := ⟨_, List.getElem?_eq_getElem (by omega)⟩
          obtain ⟨gT, cT, hta, _, _, hcT, hcm⟩ := own_rd hrw (tS_at hp00)
          injection hta with hta _ hctc
          subst hta hctc
          have H0 : Hid (A2 w wr g (.slice (some ⟨gT, 0, none⟩) (pl + 1) tc) P0 cs past [] 1048576) := hide ⟨vb, va, H, hF.mono (by have := Mk_le s L k; have := unhide HK; omega), htr, by rw [hag]; exact Tr.one cs, by rw [← hP0, List.reverse_cons], by rw [hPl]; exact hrw⟩
          have HP51 : Hid (P0.length ≤ 51) := hide (by omega)
          have HP1 := hide hPl
          have HCT := hide (And.intro hcT hcm)
          have hplI : (pl : Int) ≤ 50 := by omega
          rw [← hsk]
          clear HM hF htr hag hrw hP0 hPl H100 HDO HSKE hsk hcT hcm hp00
          go_wp2_with fail
          go_loopw [0, 11] (fun sv i wr2 => ∃ (cs : List (List UInt8)) (past fut : List (List (List UInt8))), i = .int .i64 ((past.length : Int) - 1) ∧ sv = .string (tb cs) ∧ Hid (A2 w wr2 g (.slice (some ⟨gT, 0, none⟩) (pl + 1) tc) P0 cs past fut 1048576)) (fun _ i _ => (intOf i + 1).toNat)
          case atStart => exact ⟨cs, past, [], by rw [hpl]; simp; omega, rfl, H0⟩
          case round =>
            clear H0 HPL hpl
            obtain ⟨cs, past, fut, rfl, rfl, HM⟩ := hrel
            obtain ⟨sk, hsk⟩ : ∃ z, tb cs = z := ⟨_, rfl⟩
            rw [hsk]
            obtain ⟨vb, va, H, hF, htb, hta, hP, hrw⟩ := (unhide HM).shape
            rw [hsk] at hF
            have HSKE := hide hsk
            clear HM hsk
            cases past with
            | cons d past =>
              rcases pile_cases H.back with h0 | ⟨Q, p, h0⟩
              · exfalso
                rw [h0] at htb
                simp [ats, Tr] at htb
              have ha : ats H.back = atomsL p.l :: ats Q := by rw [h0]; simp [ats]
              rw [ha] at htb
              obtain ⟨t1, t2, t3⟩ := htb
              have hK := hF.undoK (unhide HU) (by omega) h0
              have hbw := hF.bel
              have hal : H.again.length = fut.length := by have := hta.len; rw [ats_len] at this; exact this
              have hPn : P0[past.length]? = some d := by rw [← hP]; simp
              have hPN : past.length + 1 + 1 + fut.length = P0.length := by rw [← hP]; simp; omega
              have HD := hide hK.1
              have KU := hide hK.2
              have HX := hide hF.tx
              have HT := hide (And.intro t1 (And.intro t2 (And.intro t3 (And.intro hta (And.intro hal (And.intro hPN hP))))))
              obtain ⟨j, hj⟩ : ∃ z, past.length = z := ⟨_, rfl⟩
              rw [List.length_cons, hj, show ((j + 1 : Nat) : Int) - 1 = (j : Int) by omega]
              rw [hj] at hPn
              have HCR : Hid (∀ W : World, W.ownsRow w.heap.size 9 1 (.slice (some ⟨gT, 0, none⟩) (pl + 1) tc) P0.length (tS P0) → W.cell? ⟨gT, j, none⟩ = some (.string (tb d))) := hide (fun W hW => row_cell (n := pl + 1) (by have h9 := hW; rw [unhide HP1] at h9; exact h9) (tS_at hPn))
              have HR := hide hrw
              have HJ := hide hj
              have j0 : (0 : Int) ≤ (j : Int) := by omega
              have j1 : j < pl + 1 := by have := unhide HP1; omega
              have BW := hide hbw
              clear hF hta hP hrw h0 ha t1 t2 t3 hK hbw hal hPn hPN hj
              go_wp2_with fail
              refine Calls.mono (unhide KU) ?_
              intro r w3 h3
              obtain ⟨hst, hkeep⟩ := h3.shape
              obtain ⟨vb3, va3, H3, a, c, rfl, hv, E, ⟨hq1, q, hq2, hq3⟩, hbel, hF3⟩ := hst.shape
              rw [hv]
              obtain ⟨n1, hn1⟩ : ∃ z, p.l.length = z := ⟨_, rfl⟩
              rw [hn1]
              have HE := hide E
              have HN := hide hn1
              have B3 := hide hbel
              have R3 := hide (hkeep _ _ _ _ (unhide HR))
              have HF3 := hide hF3
              have HQ := hide (And.intro hq1 (And.intro hq2 hq3))
              clear h3 hst hkeep hv E hn1 hbel hF3 hq1 hq2 hq3 KU HR BW
              go_wp2_with fail
              refine Calls.mono (applied_any a p.l c n1 (At.toN (atomsL p.l)) sk cs w3 (unhide HU _ (unhide B3)) (unhide HE) (unhide HN) (unhide HX) (unhide HD)) ?_
              rintro r w4 ⟨S, rfl, x4, b4⟩
              have hF4 := (unhide HF3 S x4)
              rw [(unhide HT).2.1] at x4 hF4
              have hR4 := own_call (unhide R3) b4
              have q4 := unhide HCR _ hR4
              rw [← x4.tb] at q4
              have F4 := hide (hF4.call b4)
              have R4 := hide hR4
              have X4 := hide x4.tb
              clear x4 hF4 hR4 b4 R3 HE HF3
              go_wp2_with fail
              refine ⟨⟨d, past, cs :: fut, ?_, by rw [unhide X4], hide ⟨_, _, H3, by rw [← unhide X4]; exact unhide F4, by rw [(unhide HQ).1]; exact (unhide HT).2.2.1, ?_, ?_, unhide R4⟩⟩, ?_⟩
              · rw [unhide HJ]
              · rw [(unhide HQ).2.1]
                refine Tr.push (unhide HT).2.2.2.1 ?_ ?_ ?_
                · rw [(unhide HQ).2.2, (inv_from (unhide HD).2.1.symm).1, ← At.app_len _ cs (unhide HD).2.1.symm, (unhide HT).2.1]
                · rw [(unhide HQ).2.2, ← (unhide HT).2.1, inv_back (unhide HD).2.1.symm]
                · have h1 := (unhide HT).2.2.2.2.1
                  have h2 := (unhide HT).2.2.2.2.2.1
                  have h3 := unhide HP51
                  omega
              · rw [← (unhide HT).2.2.2.2.2.2]
                simp
              · simp [intOf] <;> omega
            | nil =>
              have hb0 : H.back = [] := by have := htb.len; rw [ats_len] at this; exact List.eq_nil_of_length_eq_zero this
              have KU := hide (hF.undo0 hb0)
              have F0 := hide hF
              have HT := hide (And.intro htb (And.intro hta hP))
              have HR := hide hrw
              clear hF htb hta hP hrw hb0
              go_wp2_with fail
              refine Calls.mono (unhide KU) ?_
              rintro r w3 ⟨rfl, b3⟩
              have F3 := hide ((unhide F0).call b3)
              have R3 := hide (own_call (unhide HR) b3)
              clear b3 F0 HR KU
              obtain ⟨a1, ha1⟩ : ∃ a1, (if tc = 1 then some (⟨gT, 0, none⟩ : Addr) else some ⟨gT, 1, none⟩) = a1 := ⟨_, rfl⟩
              have HA1 := hide ha1
              have pl1 : 1 ≤ pl + 1 := by omega
              go_wp2_with fail
              clear ha1
              have HM0 : Hid (pl + 1 - 1 = pl) := hide (by omega)
              have H3 : Hid (A2 w w3 g (.slice (some ⟨gT, 0, none⟩) (pl + 1) tc) P0 cs [] fut 1048576) := hide (by
                obtain ⟨h1, h2, h3⟩ := unhide HT
                exact ⟨_, _, _, by rw [unhide HSKE]; exact unhide F3, h1, h2, h3, unhide R3⟩)
              clear F3 R3 HT
              go_loopw [0, 103] (fun sv i wr3 => ∃ (cs : List (List UInt8)) (past fut : List (List (List UInt8))), i = .int .i64 (past.length : Int) ∧ sv = .string (tb cs) ∧ Hid (A2 w wr3 g (.slice (some ⟨gT, 0, none⟩) (pl + 1) tc) P0 cs past fut 1048576)) (fun _ i _ => ((pl : Int) - intOf i).toNat)
              case atStart => exact ⟨cs, [], fut, by simp, by rw [unhide HSKE], H3⟩
              case round =>
                clear H3 HSKE
                obtain ⟨cs, past, fut, rfl, rfl, HM⟩ := hrel
                obtain ⟨sk, hsk⟩ : ∃ z, tb cs = z := ⟨_, rfl⟩
                rw [hsk]
                obtain ⟨vb, va, H, hF, htb, hta, hP, hrw⟩ := (unhide HM).shape
                rw [hsk] at hF
                have HSKE := hide hsk
                clear HM hsk
                obtain ⟨j, hj⟩ : ∃ z, past.length = z := ⟨_, rfl⟩
                rw [hj]
                have hPN : past.length + 1 + fut.length = P0.length := by rw [← hP]; simp; omega
                cases fut with
                | cons d fut =>
                  rcases pile_cases H.again with h0 | ⟨Q, p, h0⟩
                  · exfalso
                    rw [h0] at hta
                    simp [ats, Tr] at hta
                  have ha : ats H.again = atomsL p.l :: ats Q := by rw [h0]; simp [ats]
                  rw [ha] at hta
                  obtain ⟨t1, t2, t3⟩ := hta
                  have hK := hF.redoK (unhide HU) (by omega) h0
                  have hbw := hF.bel
                  have hal : H.back.length = past.length := by have := htb.len; rw [ats_len] at this; exact this
                  have hPn : P0[past.length + 1]? = some d := by rw [← hP]; simp
                  have HD := hide hK.1
                  have KU := hide hK.2
                  have HX := hide hF.tx
                  simp only [List.length_cons] at hPN
                  have HT := hide (And.intro t1 (And.intro t2 (And.intro t3 (And.intro htb (And.intro hal (And.intro hPN hP))))))
                  rw [hj] at hPn
                  have j1 : j < pl := by have h1 := unhide HP1; have h2 := unhide HM0; omega
                  have hc2 : ¬ tc = 1 := by have h1 := (unhide HCT).1; have h2 := unhide HM0; omega
                  have haa : a1 = some ⟨gT, 1, none⟩ := by rw [← unhide HA1, if_neg hc2]
                  have hcell : wr.cell? ⟨gT, 1 + j, none⟩ = some (.string (tb d)) := by
                    have h9 := hrw
                    rw [unhide HP1] at h9
                    have h8 := row_cell h9 (tS_at hPn)
                    rw [Nat.add_comm] at h8
                    exact h8
                  obtain ⟨td, htd⟩ : ∃ z, tb d = z := ⟨_, rfl⟩
                  rw [htd] at hcell
                  have HTD := hide htd
                  have HR := hide hrw
                  have HJ := hide hj
                  have j0 : (0 : Int) ≤ (j : Int) := by omega
                  have BW := hide hbw
                  subst haa
                  clear hF htb hP hrw h0 ha t1 t2 t3 hK hbw hal hPn hPN hj hc2 htd
                  go_wp2_with fail
                  refine Calls.mono (unhide KU) ?_
                  intro r w4 h4
                  obtain ⟨hst, hkeep⟩ := h4.shape
                  obtain ⟨vb3, va3, H4, a, c, rfl, hv, E, ⟨hq1, q, hq2, hq3⟩, hbel, hF3⟩ := hst.shape
                  rw [hv]
                  obtain ⟨n1, hn1⟩ : ∃ z, p.l.length = z := ⟨_, rfl⟩
                  rw [hn1]
                  have HE := hide E
                  have HN := hide hn1
                  have B3 := hide hbel
                  have R3 := hide (hkeep _ _ _ _ (unhide HR))
                  have HF3 := hide hF3
                  have HQ := hide (And.intro hq1 (And.intro hq2 hq3))
                  clear h4 hst hkeep hv E hn1 hbel hF3 hq1 hq2 hq3 KU HR BW
                  go_wp2_with fail
                  refine Calls.mono (applied_any a p.l c n1 (At.toN (atomsL p.l)) sk cs w4 (unhide HU _ (unhide B3)) (unhide HE) (unhide HN) (unhide HX) (unhide HD)) ?_
                  rintro r w5 ⟨S, rfl, x4, b4⟩
                  have hF4 := (unhide HF3 S x4)
                  rw [(unhide HT).2.1] at x4 hF4
                  obtain rfl : S = td := by rw [x4.tb]; exact unhide HTD
                  have F4 := hide (hF4.call b4)
                  have R4 := hide (own_call (unhide R3) b4)
                  clear x4 hF4 b4 R3 HE HF3
                  go_wp2_with fail
                  refine ⟨⟨d, cs :: past, fut, ?_, by rw [unhide HTD], hide ⟨_, _, H4, by rw [unhide HTD]; exact unhide F4, ?_, by rw [(unhide HQ).1]; exact (unhide HT).2.2.1, ?_, unhide R4⟩⟩, ?_⟩
                  · rw [List.length_cons, unhide HJ]; simp
                  · rw [(unhide HQ).2.1]
                    refine Tr.push (unhide HT).2.2.2.1 ?_ ?_ ?_
                    · rw [(unhide HQ).2.2, (inv_from (unhide HD).2.1.symm).1, ← At.app_len _ cs (unhide HD).2.1.symm, (unhide HT).2.1]
                    · rw [(unhide HQ).2.2, ← (unhide HT).2.1, inv_back (unhide HD).2.1.symm]
                    · have h1 := (unhide HT).2.2.2.2.1
                      have h2 := (unhide HT).2.2.2.2.2.1
                      have h3 := unhide HP51
                      omega
                  · rw [← (unhide HT).2.2.2.2.2.2]
                    simp
                  · simp [intOf] <;> omega
                | nil =>
                  have j1 : j = pl := by have h1 := unhide HP1; have h2 := unhide HM0; simp only [List.length_nil] at hPN; omega
                  subst j1
                  have B9 := hide hF.bel
                  clear hF htb hta hP hrw hPN
                  go_wp2_with fail
                  refine Calls.mono (awake_any _ (unhide HU _ (unhide B9))) ?_
                  rintro r wa ⟨rfl, hba⟩
                  have HBa := hide ((unhide B9).trans (hba.mono (unhide B9).size))
                  clear hba
                  go_wp2_with fail
                  go_ret
                  exact ⟨rfl, unhide HBa⟩
end Go.Proofs.YtihiengejpjbkaaDoor
