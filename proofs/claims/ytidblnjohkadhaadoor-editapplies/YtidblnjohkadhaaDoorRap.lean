/- What an edit makes of a text: the walk of the document's own Apply. -/
import Derived.Test.YtidblnjohkadhaaDoorRcu
namespace Go.Proofs.YtidblnjohkadhaaDoor
set_option linter.unusedVariables false
set_option linter.unusedSimpArgs false
open Go.ChangeShapes Go.WideShapes Go.ChangeAt Go.RowKit Go.Joins Go.Deep

theorem spread_ap {a : Option Addr} {l : List Pt} {c n t : Nat} {W : World} (he : Edit W a l c) (hd : IsEd l n t) (hc : l.length ≤ 4194304) : Calls Tryd.prog 70 #[.slice a l.length c, .int .i64 (n : Int)] W fun r w' => ∃ gP gD m P D, n + 1 = m ∧ r = .returned (.agg #[.slice (some ⟨gP, 0, none⟩) m m, .slice (some ⟨gD, 0, none⟩) n n]) ∧ Wd w' W.heap.size (.slice (some ⟨gP, 0, none⟩) m m) (.slice (some ⟨gD, 0, none⟩) n n) P D ∧ WdL P D n (atomsL l) ∧ Below W.heap.size W w' := Calls.mono (spread_any a l c n t W he.pts hd hc) (by
    rintro r w' ⟨gP, gD, m, P, D, h1, h2, h3, h4, h5, h6, h7, h8⟩
    exact ⟨gP, gD, m, P, D, h1, h2, h3, ⟨h4, h5, h6, h7⟩, h8⟩)
theorem ap_step {P : List (List (List UInt8))} {D : List Bool} {X q cs T : List (List UInt8)} {j : Nat} {b : Bool} {c : List UInt8} (hq : P[j]? = some q) (hb : D[j]? = some b) (hc : cs[j]? = some c) (h : X ++ At.app (wAts (P.drop j) (D.drop j)) (cs.drop j) = T) : (X ++ q ++ kp b c) ++ At.app (wAts (P.drop (j + 1)) (D.drop (j + 1))) (cs.drop (j + 1)) = T := by
  have h1 := List.getElem?_eq_some_iff.1 hc
  rw [List.drop_eq_getElem_cons h1.1, h1.2, wAts_drop hq hb, appW_step] at h
  rw [← h]
  simp only [List.append_assoc]
theorem ap_end {P : List (List (List UInt8))} {D : List Bool} {X q cs T : List (List UInt8)} {n : Nat} {x : List At} (hw : WdL P D n x) (hq : P[n]? = some q) (hl : cs.length = n) (h : X ++ At.app (wAts (P.drop n) (D.drop n)) (cs.drop n) = T) : X ++ q = T := by
  have h1 := wAts_last (by rw [hw.pl, hw.dl]) (by rw [hw.dl]; exact hq)
  rw [hw.dl] at h1
  rw [h1, List.drop_of_length_le (by omega), appW_end] at h
  exact h
theorem apL_le {X Y T : List (List UInt8)} (h : X ++ Y = T) {M : Nat} (hM : T.length ≤ M) : X.length ≤ M := by
  have := congrArg List.length h
  rw [List.length_append] at this
  omega
set_option maxRecDepth 100000 in
set_option maxHeartbeats 4000000 in
theorem rapply_no {a : Option Addr} {l : List Pt} {c : Nat} {s : ByteArray} {w : World} (he : Edit w a l c) (hs : s.size ≤ 140737488355328) (hn : isOfB l s = false) :
    Calls Tryd.prog 40 #[.slice a l.length c, .string s] w fun r w' => r = .returned (.tuple #[.string ByteArray.empty, .int .i64 30]) ∧ Below w.heap.size w w' := by
  have hcv := Lib.run_convert_string_bytes (P := Tryd.prog) w 9 65 5 s Tryd.underlying9 Tryd.underlying65 Tryd.underlying5
  have HBY := hide (bw_bys w s)
  have HB1 := hide (bw_below w s)
  have HCA := hide (And.intro (grownCap_ge w s.size 0 5) (grownCap_le_maxLen w s.size 0 5 (by unfold maxLen; omega)))
  have HS := hide hs
  obtain ⟨cap, hcap⟩ : ∃ z, grownCap w s.size 0 5 = z := ⟨_, rfl⟩
  obtain ⟨W1, hW1⟩ : ∃ z, Lib.bytesWorld w 5 s = z := ⟨_, rfl⟩
  obtain ⟨g, hg⟩ : ∃ z, w.heap.size = z := ⟨_, rfl⟩
  have HB1 : Hid (Below w.heap.size w W1) := by rw [← hW1]; exact HB1
  rw [hcap] at hcv HCA
  rw [hW1] at hcv HBY
  rw [hg] at hcv HBY
  clear hcap hW1 hg hs
  have HRU : Hid (Calls Tryd.prog 65 #[.slice (some ⟨g, 0, none⟩) s.size cap] W1 fun r w' => r = .returned (.int .i64 (runeV s.data.toList)) ∧ W1 = w') := hide (by have := runes_any g cap s.data.toList W1 (unhide HBY) (by rw [← Lib.size_eq]; exact (unhide HCA).1) (unhide HCA).2 (by rw [← Lib.size_eq]; have := unhide HS; omega) (some ⟨g, 0, none⟩) (fun _ => rfl); rw [← Lib.size_eq] at this; exact this)
  have HCK : Hid (∀ W k, Below w.heap.size w W → Calls Tryd.prog 26 #[.slice a l.length c, .int .i64 k] W fun r w' => r = .returned (.int .i64 (checkE l k)) ∧ Below W.heap.size W w') := hide (fun W k hW => rcheck_at (w := W) (he.call hW) rfl (Below.refl _ _))
  obtain ⟨nl, hnl⟩ : ∃ z, l.length = z := ⟨_, rfl⟩
  rw [hnl] at HCK ⊢
  clear hnl he HBY HCA
  unfold isOfB at hn
  cases hv : Lib.validD s.data.toList with
  | false =>
    have e : runeV s.data.toList = -1 := by unfold runeV; rw [if_neg (by rw [hv]; simp)]
    rw [e] at HRU
    clear e hv hn HCK
    go_enter Tryd.func40, Tryd.ntmps40
    go_wp2_with fail
    refine Calls.mono (unhide HRU) ?_
    rintro r w2 ⟨rfl, rfl⟩
    go_wp2_with fail
    go_ret2
    exact ⟨rfl, unhide HB1⟩
  | true =>
    obtain ⟨cs, hcs⟩ := tx_of_valid hv
    have e : runeV s.data.toList = (cs.length : Int) := by
      unfold runeV
      rw [if_pos hv]
      have : (⟨s.data.toList.toArray⟩ : ByteArray) = s := by simp
      rw [this, hcs.count]
    rw [e] at HRU
    rw [hv, hcs.count, Bool.true_and] at hn
    have hck : checkE l (cs.length : Int) = 30 := by
      rcases check_two l (cs.length : Int) with h | h
      · rw [h] at hn; simp at hn
      · exact h
    have HC3 := hide (unhide HCK W1 (cs.length : Int) (unhide HB1))
    rw [hck] at HC3
    obtain ⟨n, hn2⟩ : ∃ z, cs.length = z := ⟨_, rfl⟩
    rw [hn2] at HC3 HRU
    have n0 : ¬ (n : Int) < 0 := by omega
    clear e hv hn hcs hck hn2 HCK
    go_enter Tryd.func40, Tryd.ntmps40
    go_wp2_with fail
    refine Calls.mono (unhide HRU) ?_
    rintro r w2 ⟨rfl, rfl⟩
    go_wp2_with fail
    refine Calls.mono (unhide HC3) ?_
    rintro r w3 ⟨rfl, hb3⟩
    have HB3 := hide ((unhide HB1).trans (hb3.mono (unhide HB1).size))
    clear hb3
    go_wp2_with fail
    go_ret2
    exact ⟨rfl, unhide HB3⟩
set_option maxRecDepth 100000 in
set_option maxHeartbeats 4000000 in
theorem rapply_ok {a : Option Addr} {l : List Pt} {c n t : Nat} {s : ByteArray} {cs : List (List UInt8)} {w : World} (he : Edit w a l c) (hs : s.size ≤ 140737488355328) (hcs : Tx s cs) (hcn : cs.length = n) (hd : IsEd l n t) (hc : l.length ≤ 4194304) :
    Calls Tryd.prog 40 #[.slice a l.length c, .string s] w fun r w' => r = .returned (.tuple #[.string (txB (At.app (atomsL l) cs)), .int .i64 0]) ∧ Below w.heap.size w w' := by
  have hcv := Lib.run_convert_string_bytes (P := Tryd.prog) w 9 65 5 s Tryd.underlying9 Tryd.underlying65 Tryd.underlying5
  have HBY := hide (bw_bys w s)
  have HB1 := hide (bw_below w s)
  have HCA := hide (And.intro (grownCap_ge w s.size 0 5) (grownCap_le_maxLen w s.size 0 5 (by unfold maxLen; omega)))
  have HS := hide hs
  obtain ⟨cap, hcap⟩ : ∃ z, grownCap w s.size 0 5 = z := ⟨_, rfl⟩
  obtain ⟨W1, hW1⟩ : ∃ z, Lib.bytesWorld w 5 s = z := ⟨_, rfl⟩
  obtain ⟨g, hg⟩ : ∃ z, w.heap.size = z := ⟨_, rfl⟩
  have HB1 : Hid (Below w.heap.size w W1) := by rw [← hW1]; exact HB1
  rw [hcap] at hcv HCA
  rw [hW1] at hcv HBY
  rw [hg] at hcv HBY
  clear hcap hW1 hg hs
  have HRU : Hid (Calls Tryd.prog 65 #[.slice (some ⟨g, 0, none⟩) s.size cap] W1 fun r w' => r = .returned (.int .i64 (runeV s.data.toList)) ∧ W1 = w') := hide (by have := runes_any g cap s.data.toList W1 (unhide HBY) (by rw [← Lib.size_eq]; exact (unhide HCA).1) (unhide HCA).2 (by rw [← Lib.size_eq]; have := unhide HS; omega) (some ⟨g, 0, none⟩) (fun _ => rfl); rw [← Lib.size_eq] at this; exact this)
  have hck : checkE l (n : Int) = 0 := by have h := ed_check hd; exact h
  have HCK : Hid (∀ W, Below w.heap.size w W → Calls Tryd.prog 26 #[.slice a l.length c, .int .i64 (n : Int)] W fun r w' => r = .returned (.int .i64 0) ∧ Below W.heap.size W w') := hide (fun W hW => by have h := rcheck_at (w := W) (k := (n : Int)) (he.call hW) rfl (Below.refl _ _); rw [hck] at h; exact h)
  have HPA := hide (fun W (hW : Below w.heap.size w W) => spread_ap (he.call hW) hd hc)
  have hrv : runeV s.data.toList = (n : Int) := by
    unfold runeV
    rw [if_pos hcs.valid]
    have : (⟨s.data.toList.toArray⟩ : ByteArray) = s := by simp
    rw [this, hcs.count, hcn]
  rw [hrv] at HRU
  have HCH : Hid (∀ W : World, Calls Tryd.prog 71 #[.string s] W fun r w' => ∃ v, r = .returned v ∧ w'.ownsRow W.heap.size 9 1 v n (sS (cs.map fun c => [c])) ∧ Below W.heap.size W w') := hide (fun W => by have h := chars_row (w := W) hcs (by rw [hcn]; exact hd.2.2.2.1); rw [hcn] at h; exact h)
  have nI : (n : Int) ≤ 1099511627776 := by have := hd.2.2.2.1; omega
  have n0 : ¬ (n : Int) < 0 := by omega
  have HCS := hide hcs.cps
  have HCN := hide hcn
  have HTL : Hid (t ≤ 1099511627776) := hide hd.2.2.2.2
  have HTN : Hid (At.toN (atomsL l) = t) := hide hd.2.2.1
  have HFN : Hid (At.fromN (atomsL l) = n) := hide hd.2.1
  obtain ⟨nl, hnl⟩ : ∃ z, l.length = z := ⟨_, rfl⟩
  rw [hnl] at HCK HPA ⊢
  clear hnl he hd hc hck hrv hcs hcn HBY HCA
  have HTT : Hid ((At.app (atomsL l) cs).length ≤ 1099511627776) := hide (by rw [At.app_len _ _ (by rw [unhide HCN, unhide HFN]), unhide HTN]; exact unhide HTL)
  obtain ⟨T, hT⟩ : ∃ z, At.app (atomsL l) cs = z := ⟨_, rfl⟩
  have HT := hide hT
  rw [hT] at HTT ⊢
  clear hT
  go_enter Tryd.func40, Tryd.ntmps40
  go_wp2_with fail
  refine Calls.mono (unhide HRU) ?_
  rintro r w2 ⟨rfl, rfl⟩
  clear hcv HRU
  go_wp2_with fail
  refine Calls.mono (unhide HCK _ (unhide HB1)) ?_
  rintro r w3 ⟨rfl, hb3⟩
  have HB3 := hide ((unhide HB1).trans (hb3.mono (unhide HB1).size))
  clear hb3 HB1 HCK
  go_wp2_with fail
  refine Calls.mono (unhide HPA _ (unhide HB3)) ?_
  rintro r w4 ⟨gP, gD, m, P, D, hm, rfl, hwd, hwl, hb4⟩
  have HB4 := hide ((unhide HB3).trans (hb4.mono (unhide HB3).size))
  have HM := hide hm
  have HWL := hide hwl
  have HX4 := hide (WdX.box (w := w) (hwd.base (unhide HB3).size))
  have HB5 := hide ((unhide HB4).alloc (unhide HB4).size (.cells #[.slice (some ⟨gP, 0, none⟩) m m, .slice (some ⟨gD, 0, none⟩) n n] 88))
  clear hb4 hm hwl hwd HPA HB3
  go_wp2_with fail
  obtain ⟨w5, h5⟩ : ∃ z, w4.alloc (.cells #[.slice (some ⟨gP, 0, none⟩) m m, .slice (some ⟨gD, 0, none⟩) n n] 88) = z := ⟨_, rfl⟩
  obtain ⟨gW, hgW⟩ : ∃ z, w4.heap.size = z := ⟨_, rfl⟩
  rw [hgW] at HX4
  simp only [h5, hgW] at HX4 HB5 ⊢
  clear h5 hgW HB4
  refine Calls.mono (unhide HCH _) ?_
  rintro r w6 ⟨v, rfl, hv, hb6⟩
  obtain ⟨av, cv, rfl, -, -⟩ := own_sl hv
  have HB6 := hide ((unhide HB5).trans (hb6.mono (unhide HB5).size))
  have HX6 := hide ((unhide HX4).call hb6)
  have HV := hide (own_base hv (Nat.le_trans (unhide HB5).size (Nat.le_refl _)))
  clear hv hb6 HX4 HB5
  go_wp2_with fail
  go_loopw [8, 28] (fun t8 t28 wr => ∃ (j : Nat) (X : List (List UInt8)), j ≤ n ∧ t8 = .string (txB X) ∧ t28 = .int .i64 (j : Int) ∧ Hid (Cps X ∧ X ++ At.app (wAts (P.drop j) (D.drop j)) (cs.drop j) = T) ∧ w6 = wr) (fun _ t28 _ => ((n : Int) - intOf t28).toNat)
  case atStart => exact ⟨0, [], by omega, rfl, by simp, hide ⟨Cps.nil, by rw [List.drop_zero, List.drop_zero, List.drop_zero, List.nil_append, (unhide HWL).eq]; exact unhide HT⟩, rfl⟩
  case round =>
    obtain ⟨j, X, hj, rfl, rfl, HE, rfl⟩ := hrel
    obtain ⟨q, hq, hcq, hlq⟩ := (unhide HWL).at_ hj
    have c0 : w6.cell? ⟨gW, 0, none⟩ = some (.slice (some ⟨gP, 0, none⟩) m m) := (unhide HX6).bx.cell 0
    have c1 : w6.cell? ⟨gW, 1, none⟩ = some (.slice (some ⟨gD, 0, none⟩) n n) := (unhide HX6).bx.cell 1
    have c2 : w6.cell? ⟨gP, j, none⟩ = some (.string (txB q)) := ((unhide HX6).wd.cp hq).1
    have HQ := hide hq
    have HCQ := hide hcq
    have jM : (j : Int) < (m : Int) := by have := unhide HM; omega
    have j0 : (0 : Int) ≤ (j : Int) := by omega
    have hxl : (txB X).size ≤ 4398046511104 := by have h1 := apL_le (unhide HE).2 (unhide HTT); have h2 := txB_le (unhide HE).1; omega
    have hql : (txB q).size ≤ 4398046511104 := by have h2 := txB_le hcq; have := unhide HTN; have := unhide HTL; omega
    have hsz : (txB X).size + (txB q).size ≤ 9223372036854775807 := by omega
    have hap : txB X ++ txB q = txB (X ++ q) := txB_app X q
    have HXS : Hid ((txB (X ++ q)).size ≤ 8796093022208) := hide (by rw [← hap, ByteArray.size_append]; omega)
    clear hq hcq hlq
    by_cases hlt : j < n
    · have jN : (j : Int) < (n : Int) := by omega
      obtain ⟨b, hb⟩ := (unhide HWL).dr hlt
      obtain ⟨c_, hc_⟩ : ∃ z, cs[j]? = some z := ⟨_, List.getElem?_eq_getElem (by rw [unhide HCN]; exact hlt)⟩
      obtain ⟨gv, cw, hvv, v0, -, -, -, -, -⟩ := own_rd (unhide HV) (sS_at (show (cs.map fun c => [c])[j]? = some [c_] by rw [List.getElem?_map, hc_]; rfl))
      obtain ⟨rfl, -⟩ : av = some ⟨gv, 0, none⟩ ∧ True := by
        injection hvv with h1
        exact ⟨h1, trivial⟩
      have c3 : w6.cell? ⟨gD, j, none⟩ = some (.bool b) := ((unhide HX6).wd.cd hb).1
      have HNE := hide (ap_step (unhide HQ) hb hc_ (unhide HE).2)
      have HCC : Hid (Cps [c_]) := hide (fun e he => by rw [List.mem_singleton] at he; rw [he]; exact unhide HCS c_ (List.mem_of_getElem? hc_))
      have hcl : (txB [c_]).size ≤ 4 := by have := txB_le (unhide HCC); simpa using this
      have hsz2 : (txB (X ++ q)).size + (txB [c_]).size ≤ 9223372036854775807 := by have := unhide HXS; omega
      have hap2 : txB (X ++ q) ++ txB [c_] = txB (X ++ q ++ [c_]) := txB_app _ _
      have HC2 : Hid (Cps (X ++ q)) := hide ((unhide HE).1.append (unhide HCQ))
      clear hb hc_ hvv hxl hql hcl
      cases b with
      | true =>
        go_wp2_with fail
        refine ⟨⟨j + 1, X ++ q, by omega, ?_, by simp, hide ⟨unhide HC2, ?_⟩, by first | trivial | rfl⟩, by simp [intOf]; omega⟩
        · first | rfl | rw [hap]
        · have h := unhide HNE
          rw [show kp true c_ = [] from rfl, List.append_nil] at h
          exact h
      | false =>
        go_wp2_with fail
        refine ⟨⟨j + 1, X ++ q ++ [c_], by omega, ?_, by simp, hide ⟨(unhide HC2).append (unhide HCC), unhide HNE⟩, by first | trivial | rfl⟩, by simp [intOf]; omega⟩
        first | rfl | rw [List.append_assoc] | rw [hap, hap2]
    · obtain rfl : n = j := by omega
      have HEN := hide (ap_end (unhide HWL) (unhide HQ) (unhide HCN) (unhide HE).2)
      clear hxl hql
      go_wp2_with fail
      go_ret2
      refine ⟨?_, unhide HB6⟩
      rw [← unhide HEN]
      first | rfl | rw [hap]
end Go.Proofs.YtidblnjohkadhaaDoor
