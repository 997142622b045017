/- The document's Same at one list twice; Size, Check, counts as laws meet them. -/
import Derived.Test.YtonabfpgdgnpnaaDoorRow0
import Derived.Test.YtonabfpgdgnpnaaDoorTrn
namespace Go.Proofs.YtonabfpgdgnpnaaDoor
set_option linter.unusedVariables false
set_option linter.unusedSimpArgs false
open Go.ChangeShapes Go.WideShapes Go.ChangeAt Go.RowKit Go.Joins Go.Deep

set_option maxRecDepth 100000 in
set_option maxHeartbeats 4000000 in
theorem rsame_true (a b : Option Addr) (l : List Pt) (ca cb n : Nat) (w : World) (ha : PtsAt w a l) (hb : PtsAt w b l) (hn : l.length = n) (hc : n ≤ maxLen) :
    Calls Tryd.prog 15 #[.slice a n ca, .slice b n cb] w fun r w' => r = .returned (.bool true) ∧ Below w.heap.size w w' := by
  have HA := hide ha
  have HB := hide hb
  have HN := hide hn
  have nI : (n : Int) ≤ 9223372036854775807 := by unfold maxLen at hc; omega
  clear ha hb hn
  go_enter Tryd.func15, Tryd.ntmps15
  go_wp2_with fail
  go_loopw [13] (fun i wr => ∃ k : Nat, k ≤ n ∧ i = .int .i64 (k : Int) ∧ Hid (Below w.heap.size w wr)) (fun i _ => ((n : Int) - intOf i).toNat)
  case atStart => exact ⟨0, by omega, by simp, hide (Below.refl _ _)⟩
  case round =>
    obtain ⟨k, hk, rfl, HBW⟩ := hrel
    by_cases hlt : k < n
    · have kI : (k : Int) < (n : Int) := by omega
      obtain ⟨p, hpk⟩ : ∃ p, l[k]? = some p := ⟨_, List.getElem?_eq_getElem (by have := unhide HN; omega)⟩
      obtain ⟨b1, o1, rfl, e0, e1, e2⟩ := (unhide HA).at_ (unhide HBW) hpk
      obtain ⟨b2, o2, rfl, f0, f1, f2⟩ := (unhide HB).at_ (unhide HBW) hpk
      clear hpk
      go_wp2_with fail
      go_quiet (fail)
      have HBW2 := hide ((unhide HBW).trans ((Joins.below_draws _ _ nq).mono (unhide HBW).size))
      clear HBW
      go_wp2_with fail
      exact ⟨⟨k + 1, by omega, by simp, HBW2⟩, by simp [intOf]; omega⟩
    · obtain rfl : n = k := by omega
      have kI : ¬ (n : Int) < (n : Int) := by omega
      go_wp2_with fail
      go_ret
      exact ⟨rfl, unhide HBW⟩
theorem rsame_at {w W : World} {a b : Option Addr} {l m : List Pt} {ca cb na nb : Nat} (ha : Edit W a l ca) (hb' : Edit W b m cb) (he : l = m) (hna : l.length = na) (hnb : m.length = nb) (hb : Below w.heap.size w W) :
    Calls Tryd.prog 15 #[.slice a na ca, .slice b nb cb] W fun r w' => r = .returned (.bool true) ∧ Below w.heap.size w w' := by
  subst he hna hnb
  refine Calls.mono (rsame_true a b l ca cb l.length W ha.pts hb'.pts rfl (Nat.le_trans ha.cap ha.max)) ?_
  rintro r w' ⟨rfl, h⟩
  exact ⟨rfl, hb.trans (h.mono hb.size)⟩
theorem check_at {w W : World} {a : Option Addr} {l : List Pt} {c n : Nat} {k : Int} (hU : UT W) (ha : Edit W a l c) (hn : l.length = n) (hb : Below w.heap.size w W) :
    Calls Tryd.prog 59 #[.slice a n c, .int .i64 k] W fun r w' => r = .returned (.int .i64 (checkE l k)) ∧ Below w.heap.size w w' := by
  subst hn
  refine Calls.mono (check_any a l c k W hU ha.pts (Nat.le_trans ha.cap ha.max) ha.txt2) ?_
  rintro r w' ⟨rfl, h⟩
  exact ⟨rfl, hb.trans (h.mono hb.size)⟩
theorem size_at {w W : World} {a : Option Addr} {l : List Pt} {c n : Nat} (hU : UT W) (ha : Edit W a l c) (hn : l.length = n) (hb : Below w.heap.size w W) :
    Calls Tryd.prog 62 #[.slice a n c] W fun r w' => r = .returned (szVal l) ∧ Below w.heap.size w w' := by
  subst hn
  refine Calls.mono (size_any a l c W hU ha.pts (Nat.le_trans ha.cap ha.max) ha.txt2) ?_
  rintro r w' ⟨rfl, h⟩
  exact ⟨rfl, hb.trans (h.mono hb.size)⟩
theorem count_at {w W : World} {s : ByteArray} {cs : List (List UInt8)} (h : Tx s cs) (hs : s.size ≤ 281474976710656) (hb : Below w.heap.size w W) :
    Calls Tryd.prog 19 #[.string s] W fun r w' => r = .returned (.int .i64 (cs.length : Int)) ∧ Below w.heap.size w w' := by
  refine Calls.mono (counts_any s W (by omega)) ?_
  rintro r w' ⟨rfl, h'⟩
  exact ⟨by rw [h.count], hb.trans (h'.mono hb.size)⟩
theorem norm_at {w W : World} {a : Option Addr} {l : List Pt} {c n : Nat} (hU : UT W) (ha : Edit W a l c) (hn : l.length = n) (hl : n ≤ 2199023255540) (hs : sumT l ≤ 140737488355328) (hb : Below w.heap.size w W) :
    Calls Tryd.prog 53 #[.slice a n c] W fun r w' => (∃ v, r = .returned v ∧ OwnP w' W.heap.size v (normL l)) ∧ Below w.heap.size w w' := by
  subst hn
  refine Calls.mono (norm_any a l c W hU ha.pts hl hs) ?_
  rintro r w' ⟨v, rfl, h1, h2⟩
  exact ⟨⟨v, rfl, h1⟩, hb.trans (h2.mono hb.size)⟩
theorem same_ed {n : Nat} (hn : n ≤ 1099511627776) : IsEd (repL (n : Int) 0 0 ByteArray.empty) n n ∧ atomsL (repL (n : Int) 0 0 ByteArray.empty) = List.replicate n .k ∧ (repL (n : Int) 0 0 ByteArray.empty).length ≤ 11 := by
  have q := rep_ed tx_empty (n := (n : Int)) (at_ := 0) (k := 0) (by omega) (by omega) (by omega) (by omega) (by omega) (by omega) (by simp; omega)
  have e : atomsL (repL (n : Int) 0 0 ByteArray.empty) = List.replicate n .k := by rw [q.2.1]; simp
  exact ⟨⟨q.1, by rw [e, from_rep_k], by rw [e, to_rep_k], hn, hn⟩, e, q.2.2⟩
theorem ed_traB {la lb : List Pt} {n t1 t2 : Nat} (h1 : IsEd la n t1) (h2 : IsEd lb n t2) : traB la lb = true := by
  unfold traB
  rw [ed_size h1]
  simp [ed_check h2]
theorem transform_at {w W : World} {a b : Option Addr} {la lb : List Pt} {ca cb na nb : Nat} (hU : UT W) (ha : Edit W a la ca) (hb' : Edit W b lb cb) (hna : la.length = na) (hnb : lb.length = nb) (hl : na + nb ≤ 1099511627776) (hb : Below w.heap.size w W) :
    Calls Tryd.prog 43 #[.slice a na ca, .slice b nb cb] W fun r w' => TraR W w' la lb r ∧ Below w.heap.size w w' := by
  subst hna hnb
  refine Calls.mono (transform_any a b la lb ca cb W hU ha.pts hb'.pts ha.at_ hb'.at_ ha.cap hb'.cap ha.max hb'.max ha.txt2 hb'.txt2 hl) ?_
  rintro r w' h
  exact ⟨h, hb.trans (h.2.mono hb.size)⟩
/-- Transform of two edits of one size, in the limit -/
theorem tra_ok {W w' : World} {la lb : List Pt} {r : Ending} {n ta tb : Nat} (h : TraR W w' la lb r) (h1 : IsEd la n ta) (h2 : IsEd lb n tb) : ∃ c1 c2, NfG 0 c1 ∧ NfG 0 c2 ∧ atomsL c1 = At.can (At.one (atomsL la) (atomsL lb)) ∧ atomsL c2 = At.can (At.two (atomsL la) (atomsL lb)) ∧ c1.length ≤ 2 * (la.length + lb.length) + 3 ∧ c2.length ≤ 2 * (la.length + lb.length) + 3 ∧
    At.fromN (atomsL c1) = tb ∧ At.fromN (atomsL c2) = ta ∧ At.toN (atomsL c1) = At.toN (atomsL c2) ∧
    (1099511627776 < At.toN (atomsL c1) ∧ r = .returned (.tuple #[.slice none 0 0, .slice none 0 0, .int .i64 4]) ∨ IsEd c1 tb (At.toN (atomsL c1)) ∧ IsEd c2 ta (At.toN (atomsL c1)) ∧ ∃ v1 v2, r = .returned (.tuple #[v1, v2, .int .i64 0]) ∧ OwnP w' W.heap.size v1 c1 ∧ OwnP w' W.heap.size v2 c2) := by
  obtain ⟨h, _⟩ := h
  have hs := At.sizes (atomsL la) (atomsL lb) (by rw [h1.2.1, h2.2.1])
  rcases h with ⟨h, _⟩ | ⟨_, c1, c2, n1, n2, e1, e2, m1, m2, h⟩
  · rw [ed_traB h1 h2] at h; cases h
  have f1 : At.fromN (atomsL c1) = tb := by rw [e1, ← At.fromN_sw (At.can_sw _), hs.1, h2.2.2.1]
  have f2 : At.fromN (atomsL c2) = ta := by rw [e2, ← At.fromN_sw (At.can_sw _), hs.2.1, h1.2.2.1]
  have t12 : At.toN (atomsL c1) = At.toN (atomsL c2) := by rw [e1, e2, ← At.toN_sw (At.can_sw _), ← At.toN_sw (At.can_sw _), hs.2.2.1]
  refine ⟨c1, c2, n1, n2, e1, e2, m1, m2, f1, f2, t12, ?_⟩
  by_cases hb : At.toN (atomsL c1) ≤ 1099511627776
  · have d1 : IsEd c1 tb (At.toN (atomsL c1)) := ⟨n1, f1, rfl, h2.2.2.2.2, hb⟩
    have d2 : IsEd c2 ta (At.toN (atomsL c1)) := ⟨n2, f2, t12.symm, h1.2.2.2.2, hb⟩
    rcases h with ⟨h, _⟩ | ⟨_, v1, v2, rfl, o1, o2⟩
    · rw [ed_size d1] at h; cases h
    · exact .inr ⟨d1, d2, v1, v2, rfl, o1, o2⟩
  · rcases h with ⟨h, rfl⟩ | ⟨h, _⟩
    · exact .inl ⟨by omega, rfl⟩
    · exfalso
      cases hz : sizeL c1 with
      | none => exact h hz
      | some x =>
        obtain ⟨f, t, k⟩ := x
        obtain ⟨hd, _, _⟩ := size_ed hz
        have := hd.2.2.2.2
        have := hd.2.2.1
        omega
end Go.Proofs.YtonabfpgdgnpnaaDoor
