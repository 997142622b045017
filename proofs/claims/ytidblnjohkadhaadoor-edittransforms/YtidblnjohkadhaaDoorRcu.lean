/- Where a place is behind an edit: the walk of the document's own. -/
import Derived.Test.YtidblnjohkadhaaDoorSpr
import Derived.Test.YtidblnjohkadhaaDoorChc0
namespace Go.Proofs.YtidblnjohkadhaaDoor
set_option linter.unusedVariables false
set_option linter.unusedSimpArgs false
open Go.ChangeShapes Go.WideShapes Go.ChangeAt Go.RowKit Go.Joins Go.Deep

/-- a wide edit that lies in a place of its own -/
structure WdX (w wr : World) (gP gD gW n m : Nat) (P : List (List (List UInt8))) (D : List Bool) : Prop where
  wd : Wd wr w.heap.size (.slice (some ⟨gP, 0, none⟩) m m) (.slice (some ⟨gD, 0, none⟩) n n) P D
  bx : RowAt wr gW 88 [.slice (some ⟨gP, 0, none⟩) m m, .slice (some ⟨gD, 0, none⟩) n n]
theorem WdX.call {w wr wr' : World} {gP gD gW n m : Nat} {P : List (List (List UInt8))} {D : List Bool} (h : WdX w wr gP gD gW n m P D) (hb : Below wr.heap.size wr wr') : WdX w wr' gP gD gW n m P D :=
  ⟨h.wd.call hb, h.bx.below hb h.bx.lt⟩
theorem WdX.box {w wr : World} {gP gD n m : Nat} {P : List (List (List UInt8))} {D : List Bool} (h : Wd wr w.heap.size (.slice (some ⟨gP, 0, none⟩) m m) (.slice (some ⟨gD, 0, none⟩) n n) P D) :
    WdX w (wr.alloc (.cells #[.slice (some ⟨gP, 0, none⟩) m m, .slice (some ⟨gD, 0, none⟩) n n] 88)) gP gD wr.heap.size n m P D :=
  ⟨h.call ((Below.refl _ _).alloc (Nat.le_refl _) _), RowAt.new wr 88 [.slice (some ⟨gP, 0, none⟩) m m, .slice (some ⟨gD, 0, none⟩) n n]⟩
/-- the lists of a wide edit of n code points -/
structure WdL (P : List (List (List UInt8))) (D : List Bool) (n : Nat) (x : List At) : Prop where
  eq : wAts P D = x
  pl : P.length = n + 1
  dl : D.length = n
  cps : ∀ q ∈ P, Cps q
theorem wPre_toN : ∀ (P : List (List (List UInt8))) (D : List Bool) (i : Nat) (q : List (List UInt8)), P[i]? = some q → P.length = D.length + 1 → q.length ≤ At.toN (wAts P D)
  | [], _, i, q, h, _ => by simp at h
  | r :: P, [], 0, q, h, _ => by
    obtain rfl : r = q := by simpa using h
    simp only [wAts]
    rw [to_map]
    exact Nat.le_refl _
  | r :: P, [], i + 1, q, h, k => by
    have : P = [] := by simpa using k
    subst this
    simp at h
  | r :: P, b :: D, 0, q, h, _ => by
    obtain rfl : r = q := by simpa using h
    simp only [wAts]
    rw [At.to_app, to_map]
    omega
  | r :: P, b :: D, i + 1, q, h, k => by
    have := wPre_toN P D i q (by simpa using h) (by simpa using k)
    simp only [wAts]
    rw [At.to_app]
    cases b <;> simp only [stp, Bool.false_eq_true, ↓reduceIte, At.toN] <;> omega
theorem WdL.at_ {P : List (List (List UInt8))} {D : List Bool} {n : Nat} {x : List At} (h : WdL P D n x) {i : Nat} (hi : i ≤ n) : ∃ q, P[i]? = some q ∧ Cps q ∧ q.length ≤ At.toN x := by
  obtain ⟨q, hq⟩ : ∃ z, P[i]? = some z := ⟨_, List.getElem?_eq_getElem (by rw [h.pl]; omega)⟩
  refine ⟨q, hq, h.cps q (List.mem_of_getElem? hq), ?_⟩
  rw [← h.eq]
  exact wPre_toN P D i q hq (by rw [h.pl, h.dl])
theorem WdL.dr {P : List (List (List UInt8))} {D : List Bool} {n : Nat} {x : List At} (h : WdL P D n x) {i : Nat} (hi : i < n) : ∃ b, D[i]? = some b := ⟨_, List.getElem?_eq_getElem (by rw [h.dl]; omega)⟩
theorem ed_long {l : List Pt} {n t : Nat} (h : IsEd l n t) : (atomsL l).length ≤ 2199023255552 := by
  have h1 := at_len (atomsL l)
  have h2 := h.2.1
  have h3 := h.2.2.1
  have h4 := h.2.2.2
  omega
theorem cur_step {P : List (List (List UInt8))} {D : List Bool} {n : Nat} {x : List At} (h : WdL P D n x) {i k u : Nat} {q : List (List UInt8)} {b f : Bool} (hq : P[i]? = some q) (hb : D[i]? = some b) (hk : i < k) {T : Nat} (he : u + At.cur (wAts (P.drop i) (D.drop i)) (k - i) f = T) : u + q.length + (if b then 0 else 1) + At.cur (wAts (P.drop (i + 1)) (D.drop (i + 1))) (k - (i + 1)) f = T := by
  rw [wAts_drop hq hb] at he
  have e : k - i = (k - (i + 1)) + 1 := by omega
  rw [e, curW_step] at he
  omega
theorem cur_last {P : List (List (List UInt8))} {D : List Bool} {n : Nat} {x : List At} (h : WdL P D n x) {k u : Nat} {q : List (List UInt8)} {f : Bool} (hq : P[k]? = some q) (hk : k ≤ n) {T : Nat} (he : u + At.cur (wAts (P.drop k) (D.drop k)) (k - k) f = T) : u + (if f then q.length else 0) = T := by
  rw [Nat.sub_self] at he
  by_cases e : k < n
  · obtain ⟨b, hb⟩ := h.dr e
    rw [wAts_drop hq hb, curW_stop] at he
    exact he
  · obtain rfl : k = D.length := by rw [h.dl]; omega
    rw [wAts_last (by rw [h.pl, h.dl]) hq, curW_end] at he
    exact he
set_option maxRecDepth 100000 in
set_option maxHeartbeats 4000000 in
theorem rcursor_ed (a : Option Addr) (l : List Pt) (c : Nat) (n t k : Nat) (ah : Bool) (w : World) (he : Edit w a l c) (hd : IsEd l n t) (hk : k ≤ n) (hc : l.length ≤ 4194304) :
    Calls Tryd.prog 49 #[.slice a l.length c, .int .i64 (k : Int), .bool ah] w fun r w' => r = .returned (.tuple #[.int .i64 (At.cur (atomsL l) k ah : Int), .int .i64 0]) ∧ Below w.heap.size w w' := by
  have HSZ := hide (rsize_at (w := w) he rfl (Below.refl _ _))
  have e : szVal l = .tuple #[.int .i64 (n : Int), .int .i64 (t : Int), .int .i64 0] := by unfold szVal; rw [ed_size hd]
  rw [e] at HSZ
  have HSP : Hid (∀ W, Below w.heap.size w W → Calls Tryd.prog 70 #[.slice a l.length c, .int .i64 (n : Int)] W fun r w' => ∃ gP gD m P D, n + 1 = m ∧ r = .returned (.agg #[.slice (some ⟨gP, 0, none⟩) m m, .slice (some ⟨gD, 0, none⟩) n n]) ∧ Wd w' W.heap.size (.slice (some ⟨gP, 0, none⟩) m m) (.slice (some ⟨gD, 0, none⟩) n n) P D ∧ WdL P D n (atomsL l) ∧ Below W.heap.size W w') := hide (fun W hW => Calls.mono (spread_any a l c n t W (he.call hW).pts hd hc) (by
    rintro r w' ⟨gP, gD, m, P, D, h1, h2, h3, h4, h5, h6, h7, h8⟩
    exact ⟨gP, gD, m, P, D, h1, h2, h3, ⟨h4, h5, h6, h7⟩, h8⟩))
  have HCL : Hid (At.cur (atomsL l) k ah ≤ 1099511627776) := hide (by have h1 := At.cur_le (atomsL l) k ah; have h2 := hd.2.2; omega)
  have HLN : Hid (At.toN (atomsL l) ≤ 1099511627776) := hide (by have := hd.2.2; omega)
  obtain ⟨T, hT⟩ : ∃ z, At.cur (atomsL l) k ah = z := ⟨_, rfl⟩
  have HT := hide hT
  rw [hT] at HCL ⊢
  obtain ⟨nl, hnl⟩ : ∃ z, l.length = z := ⟨_, rfl⟩
  rw [hnl] at HSZ HSP ⊢
  have k0 : ¬ (k : Int) < 0 := by omega
  have kn : ¬ (n : Int) < (k : Int) := by omega
  have kI : (k : Int) ≤ 1099511627776 := by have := hd.2.2.2.1; omega
  have HK := hide hk
  clear he hd hT hnl e hk hc
  go_enter Tryd.func49, Tryd.ntmps49
  go_wp2_with fail
  refine Calls.mono (unhide HSZ) ?_
  rintro r w1 ⟨rfl, hb1⟩
  have HB1 := hide hb1
  clear hb1 HSZ
  go_wp2_with fail
  refine Calls.mono (unhide HSP _ (unhide HB1)) ?_
  rintro r w2 ⟨gP, gD, m, P, D, hm, rfl, hwd, hwl, hb2⟩
  have HB2 := hide ((unhide HB1).trans (hb2.mono (unhide HB1).size))
  have HM := hide hm
  have HWL := hide hwl
  have HX0 := hide (WdX.box (w := w) (hwd.base (unhide HB1).size))
  have HB3 := hide ((unhide HB2).alloc (unhide HB2).size (.cells #[.slice (some ⟨gP, 0, none⟩) m m, .slice (some ⟨gD, 0, none⟩) n n] 88))
  clear hb2 hm hwl hwd HSP HB1
  go_wp2_with fail
  obtain ⟨w3, h3⟩ : ∃ z, w2.alloc (.cells #[.slice (some ⟨gP, 0, none⟩) m m, .slice (some ⟨gD, 0, none⟩) n n] 88) = z := ⟨_, rfl⟩
  obtain ⟨gW, hgW⟩ : ∃ z, w2.heap.size = z := ⟨_, rfl⟩
  rw [hgW] at HX0
  simp only [h3, hgW] at HX0 HB3 ⊢
  clear h3 hgW HB2
  go_loopw [12, 35] (fun tt i wr => ∃ j s : Nat, j ≤ k ∧ tt = .int .i64 (s : Int) ∧ i = .int .i64 (j : Int) ∧ Hid (s + At.cur (wAts (P.drop j) (D.drop j)) (k - j) ah = T) ∧ Hid (WdX w wr gP gD gW n m P D) ∧ Hid (Below w.heap.size w wr)) (fun _ i _ => ((k : Int) - intOf i).toNat)
  case atStart => exact ⟨0, 0, by omega, by simp, by simp, hide (by rw [List.drop_zero, List.drop_zero, (unhide HWL).eq, Nat.sub_zero, Nat.zero_add]; exact unhide HT), HX0, HB3⟩
  case round =>
    obtain ⟨j, s, hj, rfl, rfl, HEQ, HX, HB⟩ := hrel
    obtain ⟨q, hq, hcq, hlq⟩ := (unhide HWL).at_ (show j ≤ n by have := unhide HK; omega)
    have c0 : wr.cell? ⟨gW, 0, none⟩ = some (.slice (some ⟨gP, 0, none⟩) m m) := (unhide HX).bx.cell 0
    have c1 : wr.cell? ⟨gW, 1, none⟩ = some (.slice (some ⟨gD, 0, none⟩) n n) := (unhide HX).bx.cell 1
    have c2 : wr.cell? ⟨gP, j, none⟩ = some (.string (txB q)) := ((unhide HX).wd.cp hq).1
    have HQ := hide hq
    have HCH := hide (fun W => chars_row (w := W) (tx_txB hcq) (by have := unhide HLN; omega))
    have jm : (j : Int) < (m : Int) := by have := unhide HM; have := unhide HK; omega
    have sI : (s : Int) ≤ 1099511627776 := by have := unhide HEQ; have := unhide HCL; omega
    obtain ⟨qn, hqn⟩ : ∃ z, q.length = z := ⟨_, rfl⟩
    have HQN := hide hqn
    rw [hqn] at hlq HCH
    have qI : (qn : Int) ≤ 2199023255552 := by have := unhide HLN; omega
    clear hq hcq hlq hqn
    by_cases hlt : j < k
    · have jk : (j : Int) < (k : Int) := by omega
      have jn : (j : Int) < (n : Int) := by have := unhide HK; omega
      obtain ⟨b, hb⟩ := (unhide HWL).dr (show j < n by omega)
      have HBD := hide hb
      have c3 : wr.cell? ⟨gD, j, none⟩ = some (.bool b) := ((unhide HX).wd.cd hb).1
      have HST := hide (cur_step (unhide HWL) (unhide HQ) hb hlt (unhide HEQ))
      rw [unhide HQN] at HST
      clear hb
      go_wp2_with fail
      refine Calls.mono (unhide HCH _) ?_
      rintro r w4 ⟨v, rfl, hv, hb4⟩
      obtain ⟨av, cv, rfl, -, -⟩ := own_sl hv
      have HX4 := hide ((unhide HX).call hb4)
      have HB4 := hide ((unhide HB).trans (hb4.mono (unhide HB).size))
      have c4 : w4.cell? ⟨gW, 1, none⟩ = some (.slice (some ⟨gD, 0, none⟩) n n) := (unhide HX4).bx.cell 1
      have c5 : w4.cell? ⟨gD, j, none⟩ = some (.bool b) := ((unhide HX4).wd.cd (unhide HBD)).1
      clear hv hb4 c0 c1 c2 c3 HX HB
      have hs2 : IntKind.i64.wrap ((s : Int) + (qn : Int)) = ((s + qn : Nat) : Int) := by rw [IntKind.wrap_i64] <;> omega
      cases b with
      | true =>
        go_wp2_with fail
        refine ⟨⟨j + 1, s + qn, by omega, ?_, by simp, hide ?_, HX4, HB4⟩, by simp [intOf]; omega⟩
        · simp
        · have := unhide HST; simpa using this
      | false =>
        go_wp2_with fail
        refine ⟨⟨j + 1, s + qn + 1, by omega, ?_, by simp, hide ?_, HX4, HB4⟩, by simp [intOf]; omega⟩
        · simp
        · have := unhide HST; simpa using this
    · obtain rfl : k = j := by omega
      have HLS := hide (cur_last (unhide HWL) (unhide HQ) (unhide HK) (unhide HEQ))
      rw [unhide HQN] at HLS
      cases ah with
      | false =>
        go_wp2_with fail
        go_ret2
        have := unhide HLS
        simp only [Bool.false_eq_true, ↓reduceIte, Nat.add_zero] at this
        subst this
        exact ⟨rfl, unhide HB⟩
      | true =>
        go_wp2_with fail
        refine Calls.mono (unhide HCH _) ?_
        rintro r w4 ⟨v, rfl, hv, hb4⟩
        obtain ⟨av, cv, rfl, -, -⟩ := own_sl hv
        have HB4 := hide ((unhide HB).trans (hb4.mono (unhide HB).size))
        clear hv hb4
        go_wp2_with fail
        go_ret2
        have := unhide HLS
        simp only [↓reduceIte] at this
        refine ⟨?_, unhide HB4⟩
        rw [← this]
        simp
end Go.Proofs.YtidblnjohkadhaaDoor
