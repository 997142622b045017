/- A wide edit in its one form: the walk of the document's own put, both and Close. -/
import Derived.Test.YtdnbhomjfgpcfaaDoorWds
import Derived.Test.YtdnbhomjfgpcfaaDoorRnm
import Derived.Test.YtdnbhomjfgpcfaaDoorWid2
namespace Go.Proofs.YtdnbhomjfgpcfaaDoor
set_option linter.unusedVariables false
set_option linter.unusedSimpArgs false
open Go.ChangeShapes Go.WideShapes Go.ChangeAt Go.RowKit Go.Joins Go.Deep

set_option maxRecDepth 100000 in
set_option maxHeartbeats 4000000 in
theorem rput_any {q : List (List UInt8)} (hq : Cps q) (w : World) (hs : (txB q).size ≤ 140737488355328) :
    Calls Tryd.prog 107 #[.string (txB q)] w fun r w' => r = .returned (.agg #[.int .i64 2, .int .i64 (q.length : Int), .string (txB q)]) ∧ Below w.heap.size w w' := by
  obtain ⟨s, hss⟩ : ∃ z, txB q = z := ⟨_, rfl⟩
  have HTX := hide (tx_txB hq)
  rw [hss] at HTX hs ⊢
  have HB0 : Hid (Below w.heap.size w (w.alloc (.cells #[.int .i64 0, .int .i64 0, .string { data := #[] }] 91))) := hide ((Below.refl _ _).alloc (Nat.le_refl _) _)
  have HRA := hide (RowAt.new w 91 [.int .i64 0, .int .i64 0, .string { data := #[] }])
  have hval : runeV s.data.toList = (q.length : Int) := by
    unfold runeV
    rw [if_pos (unhide HTX).valid]
    have : (⟨s.data.toList.toArray⟩ : ByteArray) = s := by simp
    rw [this, (unhide HTX).count]
  obtain ⟨n, hn⟩ : ∃ z, q.length = z := ⟨_, rfl⟩
  rw [hn] at hval ⊢
  clear hss hn hq HTX
  have HBB : Hid (w.heap.size ≤ w.heap.size) := hide (Nat.le_refl _)
  have hcv := Lib.run_convert_string_bytes (P := Tryd.prog) (w.alloc (.cells #[.int .i64 0, .int .i64 0, .string { data := #[] }] 91)) 9 104 5 s Tryd.underlying9 Tryd.underlying104 Tryd.underlying5
  have HBY := hide (bw_bys (w.alloc (.cells #[.int .i64 0, .int .i64 0, .string { data := #[] }] 91)) s)
  have HB1 := hide (bw_below (w.alloc (.cells #[.int .i64 0, .int .i64 0, .string { data := #[] }] 91)) s)
  have HCA := hide (And.intro (grownCap_ge (w.alloc (.cells #[.int .i64 0, .int .i64 0, .string { data := #[] }] 91)) s.size 0 5) (grownCap_le_maxLen (w.alloc (.cells #[.int .i64 0, .int .i64 0, .string { data := #[] }] 91)) s.size 0 5 (by unfold maxLen; omega)))
  have HS := hide hs
  obtain ⟨cap, hcap⟩ : ∃ z, grownCap (w.alloc (.cells #[.int .i64 0, .int .i64 0, .string { data := #[] }] 91)) s.size 0 5 = z := ⟨_, rfl⟩
  obtain ⟨W1, hW1⟩ : ∃ z, Lib.bytesWorld (w.alloc (.cells #[.int .i64 0, .int .i64 0, .string { data := #[] }] 91)) 5 s = z := ⟨_, rfl⟩
  obtain ⟨g, hg⟩ : ∃ z, (w.alloc (.cells #[.int .i64 0, .int .i64 0, .string { data := #[] }] 91)).heap.size = z := ⟨_, rfl⟩
  have HR1 : Hid (RowAt W1 w.heap.size 91 [.int .i64 0, .int .i64 0, .string { data := #[] }]) := hide (by rw [← hW1]; exact (unhide HRA).below (unhide HB1) (unhide HRA).lt)
  have HB2 : Hid (Below w.heap.size w W1) := hide (by rw [← hW1]; exact (unhide HB0).trans ((unhide HB1).mono (unhide HB0).size))
  rw [hcap] at hcv HCA
  rw [hW1] at hcv HBY
  rw [hg] at hcv HBY
  clear hcap hW1 hg hs HB1 HRA HB0
  have HRU : Hid (Calls Tryd.prog 70 #[.slice (some ⟨g, 0, none⟩) s.size cap] W1 fun r w' => r = .returned (.int .i64 (n : Int)) ∧ W1 = w') := hide (by have := runes_any g cap s.data.toList W1 (unhide HBY) (by rw [← Lib.size_eq]; exact (unhide HCA).1) (unhide HCA).2 (by rw [← Lib.size_eq]; have := unhide HS; omega) (some ⟨g, 0, none⟩) (fun _ => rfl); rw [← Lib.size_eq, hval] at this; exact this)
  clear hval HBY HCA
  have c0 : W1.cell? ⟨w.heap.size, 0, none⟩ = some (.int .i64 0) := (unhide HR1).cell 0
  have c1 : W1.cell? ⟨w.heap.size, 1, none⟩ = some (.int .i64 0) := (unhide HR1).cell 1
  have c2 : W1.cell? ⟨w.heap.size, 2, none⟩ = some (.string { data := #[] }) := (unhide HR1).cell 2
  have f0 := (unhide HR1).frozen 0
  have f1 := (unhide HR1).frozen 1
  have f2 := (unhide HR1).frozen 2
  have HFI : Hid (RowAt (((W1.setCell ⟨w.heap.size, 0, none⟩ (.int .i64 2)).setCell ⟨w.heap.size, 1, none⟩ (.int .i64 (n : Int))).setCell ⟨w.heap.size, 2, none⟩ (.string s)) w.heap.size 91 [.int .i64 2, .int .i64 (n : Int), .string s] ∧ Below w.heap.size w (((W1.setCell ⟨w.heap.size, 0, none⟩ (.int .i64 2)).setCell ⟨w.heap.size, 1, none⟩ (.int .i64 (n : Int))).setCell ⟨w.heap.size, 2, none⟩ (.string s))) := hide ⟨(((unhide HR1).set 0 (.int .i64 2)).set 1 (.int .i64 (n : Int))).set 2 (.string s), (((unhide HB2).setCell (unhide HBB) _).setCell (unhide HBB) _).setCell (unhide HBB) _⟩
  go_enter Tryd.func107, Tryd.ntmps107
  go_wp2_with fail
  refine Calls.mono (unhide HRU) ?_
  rintro r w2 ⟨rfl, rfl⟩
  go_wp2_with fail
  obtain ⟨wF, hF⟩ : ∃ z, ((W1.setCell ⟨w.heap.size, 0, none⟩ (.int .i64 2)).setCell ⟨w.heap.size, 1, none⟩ (.int .i64 (n : Int))).setCell ⟨w.heap.size, 2, none⟩ (.string s) = z := ⟨_, rfl⟩
  simp only [hF] at HFI ⊢
  clear hF
  have q0 : wF.cell? ⟨w.heap.size, 0, none⟩ = some (.int .i64 2) := (unhide HFI).1.cell 0
  have q1 : wF.cell? ⟨w.heap.size, 1, none⟩ = some (.int .i64 (n : Int)) := (unhide HFI).1.cell 1
  have q2 : wF.cell? ⟨w.heap.size, 2, none⟩ = some (.string s) := (unhide HFI).1.cell 2
  refine bodyPost_ret (v := .agg #[.int .i64 2, .int .i64 (n : Int), .string s]) (by simp [results, Tryd.results107, go_sem, q0, q1, q2]) rfl ?_
  exact ⟨rfl, (unhide HFI).2⟩
set_option maxRecDepth 100000 in
set_option maxHeartbeats 4000000 in
theorem rboth_any {w W : World} {B : Nat} {v : Value} {out : List Pt} {q : List (List UInt8)} {n : Nat} (ho : OwnP W B v out) (hb : Below B w W) (hB : B ≤ w.heap.size) (hq : Cps q) (h1 : q ≠ [] → OneOk out ⟨2, (q.length : Int), txB q⟩) (h2 : n ≠ 0 → OneOk (wputL out q) ⟨3, (n : Int), ByteArray.empty⟩) (hs : (txB q).size ≤ 4398046511104) (hnI : (n : Int) ≤ 4398046511104) :
    Calls Tryd.prog 95 #[v, .string (txB q), .int .i64 (n : Int)] W fun r w' => ∃ v', r = .returned v' ∧ OwnP w' B v' (bothL out q n) ∧ Below W.heap.size W w' := by
  have HO := hide ho
  have HBW := hide (And.intro hb hB)
  have H1 := hide h1
  have H2 := hide h2
  have HR0 := hide (Below.refl W.heap.size W)
  clear ho hb hB h1 h2
  by_cases hqe : q = []
  · subst hqe
    rw [txB_nil]
    have HPL : Hid (wputL out [] = out) := hide (by unfold wputL; rw [if_pos rfl])
    clear H1 hq hs
    by_cases hn : n = 0
    · subst hn
      have HF : Hid (bothL out [] 0 = out) := hide (by unfold bothL dropL; rw [if_pos rfl]; exact unhide HPL)
      go_enter Tryd.func95, Tryd.ntmps95
      go_wp2_with fail
      go_ret
      exact ⟨_, rfl, by rw [unhide HF]; exact unhide HO, unhide HR0⟩
    · have nI : (0 : Int) < (n : Int) := by omega
      have HF : Hid (bothL out [] n = oneL out ⟨3, (n : Int), ByteArray.empty⟩) := hide (by unfold bothL dropL; rw [if_neg hn, unhide HPL])
      have HOK : Hid (OneOk out ⟨3, (n : Int), ByteArray.empty⟩) := hide (by have := unhide H2 hn; rw [unhide HPL] at this; exact this)
      have HON := hide (one_own (w := w) (p := ⟨3, (n : Int), ByteArray.empty⟩) (unhide HO) (unhide HBW).1 (unhide HBW).2 (unhide HOK).1 (unhide HOK).2)
      clear hn
      go_enter Tryd.func95, Tryd.ntmps95
      go_wp2_with fail
      refine Calls.mono (unhide HON) ?_
      rintro r w9 ⟨v9, rfl, ho9, hb9⟩
      have HO9 := hide ho9
      have HB9 := hide hb9
      clear ho9 hb9 HON
      go_wp2_with fail
      go_ret
      exact ⟨_, rfl, by rw [unhide HF]; exact unhide HO9, unhide HB9⟩
  · have HPL : Hid (wputL out q = oneL out ⟨2, (q.length : Int), txB q⟩) := hide (by unfold wputL; rw [if_neg hqe])
    have HPU := hide (rput_any hq W (by omega))
    have HON : Hid (∀ W', Below W.heap.size W W' → Calls Tryd.prog 79 #[v, .agg #[.int .i64 2, .int .i64 (q.length : Int), .string (txB q)]] W' fun r w' => ∃ v', r = .returned v' ∧ OwnP w' B v' (oneL out ⟨2, (q.length : Int), txB q⟩) ∧ Below W'.heap.size W' w') := hide (fun W' hW' => one_own (w := w) (p := ⟨2, (q.length : Int), txB q⟩) ((unhide HO).call hW') ((unhide HBW).1.trans (hW'.mono (Nat.le_trans (unhide HBW).2 (unhide HBW).1.size))) (unhide HBW).2 (unhide H1 hqe).1 (unhide H1 hqe).2)
    have hne : (txB q).toList.isEmpty = false := by rw [toList_empty]; exact decide_eq_false (fun e => hqe ((txB_zero hq).1 e))
    obtain ⟨qn, hqn⟩ : ∃ z, q.length = z := ⟨_, rfl⟩
    rw [hqn] at HPU HON HPL
    obtain ⟨s, hss⟩ : ∃ z, txB q = z := ⟨_, rfl⟩
    rw [hss] at HPU HON HPL hne ⊢
    clear hqn hss H1 hq hs hqe
    by_cases hn : n = 0
    · subst hn
      have HF : Hid (bothL out q 0 = oneL out ⟨2, (qn : Int), s⟩) := hide (by unfold bothL dropL; rw [if_pos rfl]; exact unhide HPL)
      go_enter Tryd.func95, Tryd.ntmps95
      go_wp2_with fail
      refine Calls.mono (unhide HPU) ?_
      rintro r w2 ⟨rfl, hb2⟩
      have HB2 := hide hb2
      clear hb2 HPU
      go_wp2_with fail
      refine Calls.mono (unhide HON _ (unhide HB2)) ?_
      rintro r w3 ⟨v3, rfl, ho3, hb3⟩
      have HO3 := hide ho3
      have HB3 := hide ((unhide HB2).trans (hb3.mono (unhide HB2).size))
      clear ho3 hb3 HON
      go_wp2_with fail
      go_ret
      exact ⟨_, rfl, by rw [unhide HF]; exact unhide HO3, unhide HB3⟩
    · have nI : (0 : Int) < (n : Int) := by omega
      have HF : Hid (bothL out q n = oneL (oneL out ⟨2, (qn : Int), s⟩) ⟨3, (n : Int), ByteArray.empty⟩) := hide (by unfold bothL dropL; rw [if_neg hn, unhide HPL])
      have HOK : Hid (OneOk (oneL out ⟨2, (qn : Int), s⟩) ⟨3, (n : Int), ByteArray.empty⟩) := hide (by have := unhide H2 hn; rw [unhide HPL] at this; exact this)
      clear hn
      go_enter Tryd.func95, Tryd.ntmps95
      go_wp2_with fail
      refine Calls.mono (unhide HPU) ?_
      rintro r w2 ⟨rfl, hb2⟩
      have HB2 := hide hb2
      clear hb2 HPU
      go_wp2_with fail
      refine Calls.mono (unhide HON _ (unhide HB2)) ?_
      rintro r w3 ⟨v3, rfl, ho3, hb3⟩
      have HO3 := hide ho3
      have HB3 := hide ((unhide HB2).trans (hb3.mono (unhide HB2).size))
      clear ho3 hb3 HON
      have HON := hide (one_own (w := w) (p := ⟨3, (n : Int), ByteArray.empty⟩) (unhide HO3) ((unhide HBW).1.trans ((unhide HB3).mono (Nat.le_trans (unhide HBW).2 (unhide HBW).1.size))) (unhide HBW).2 (unhide HOK).1 (unhide HOK).2)
      go_wp2_with fail
      refine Calls.mono (unhide HON) ?_
      rintro r w9 ⟨v9, rfl, ho9, hb9⟩
      have HO9 := hide ho9
      have HB9 := hide ((unhide HB3).trans (hb9.mono (unhide HB3).size))
      clear ho9 hb9 HON
      go_wp2_with fail
      go_ret
      exact ⟨_, rfl, by rw [unhide HF]; exact unhide HO9, unhide HB9⟩
set_option maxRecDepth 100000 in
set_option maxHeartbeats 4000000 in
theorem close_any {B : Nat} {vP vD : Value} {P : List (List (List UInt8))} {D : List Bool} (w : World) (hw : Wd w B vP vD P D) (hl : P.length = D.length + 1) (hcp : ∀ q ∈ P, Cps q) (hM : (wAts P D).length ≤ 4398046511104) (hT : At.toN (wAts P D) ≤ 137438953472) (hD : D.length ≤ 4398046511104) :
    Calls Tryd.prog 64 #[.agg #[vP, vD]] w fun r w' => ∃ v L, r = .returned v ∧ OwnP w' w.heap.size v L ∧ NfG 0 L ∧ atomsL L = At.can (wAts P D) ∧ Below w.heap.size w w' := by
  obtain ⟨q0, hq0⟩ : ∃ z, P[0]? = some z := ⟨_, List.getElem?_eq_getElem (by omega)⟩
  obtain ⟨gP, cP, rfl, -, -, -, -, -, hcP⟩ := hw.rd_p hq0
  obtain ⟨aD, cD, rfl, hcD, -⟩ := own_sl hw.d
  have hb0 : Below w.heap.size w (w.alloc (.cells #[.slice (some ⟨gP, 0, none⟩) P.length cP, .slice aD D.length cD] 100)) := (Below.refl _ _).alloc (Nat.le_refl _) _
  have HB0 := hide hb0
  have HW0 := hide (hw.call hb0)
  have HR0 := hide (RowAt.new w 100 [.slice (some ⟨gP, 0, none⟩) P.length cP, .slice aD D.length cD])
  have HCP := hide hcp
  have HMM := hide (And.intro hM hT)
  have HL := hide hl
  obtain ⟨m, hm⟩ : ∃ z, P.length = z := ⟨_, rfl⟩
  obtain ⟨n, hn⟩ : ∃ z, D.length = z := ⟨_, rfl⟩
  have HPM := hide hm
  have HDN := hide hn
  have nI : (n : Int) ≤ 4398046511104 := by omega
  have HMN : Hid (m = n + 1) := hide (by omega)
  rw [hm, hn] at HW0 HR0 HB0 ⊢
  clear hw hl hcp hM hT hD hq0 hcP hcD hb0 hm hn
  go_enter Tryd.func64, Tryd.ntmps64
  go_wp2_with fail
  obtain ⟨wA, hA⟩ : ∃ z, w.alloc (.cells #[.slice (some ⟨gP, 0, none⟩) m cP, .slice aD n cD] 100) = z := ⟨_, rfl⟩
  obtain ⟨bb, hbb⟩ : ∃ z, w.heap.size = z := ⟨_, rfl⟩
  have HR0 : Hid (RowAt wA bb 100 [.slice (some ⟨gP, 0, none⟩) m cP, .slice aD n cD]) := by rw [← hbb, ← hA]; exact HR0
  have HB0 : Hid (Below w.heap.size w wA) := by rw [← hA]; exact HB0
  have HW0 : Hid (Wd wA B (.slice (some ⟨gP, 0, none⟩) m cP) (.slice aD n cD) P D) := by rw [← hA]; exact HW0
  try simp only [hA]
  try rw [show (Value.pointer (some ({ block := w.heap.size, off := 0 } : Addr))) = Value.pointer (some ({ block := bb, off := 0 } : Addr)) by rw [hbb]]
  clear hA hbb
  have z0 : wA.cell? ⟨bb, 0, none⟩ = some (.slice (some ⟨gP, 0, none⟩) m cP) := (unhide HR0).cell 0
  go_wp2_with fail
  clear z0
  go_loopw [3, 4, 5, 11] (fun o ah dr i wr => ∃ (k nd : Nat) (q : List (List UInt8)), k ≤ n ∧ ah = .string (txB q) ∧ dr = .int .i64 (nd : Int) ∧ i = .int .i64 (k : Int) ∧ Hid (∃ out, OwnP wr w.heap.size o out ∧ ClI P D out q nd k) ∧ Hid (Wd wr B (.slice (some ⟨gP, 0, none⟩) m cP) (.slice aD n cD) P D) ∧ Hid (RowAt wr bb 100 [.slice (some ⟨gP, 0, none⟩) m cP, .slice aD n cD]) ∧ Hid (Below w.heap.size w wr)) (fun _ _ _ i _ => ((n : Int) - intOf i).toNat)
  case atStart => exact ⟨0, 0, [], by omega, rfl, by simp, by simp, hide ⟨[], OwnP.nil _ _, ClI.start P D⟩, HW0, HR0, HB0⟩
  case round =>
    obtain ⟨k, nd, q, hk, rfl, rfl, rfl, HOC, HW, HR, HB⟩ := hrel
    obtain ⟨out, hoo, hcl⟩ := unhide HOC
    have HO := hide hoo
    have HC := hide hcl
    clear hoo hcl HOC
    obtain ⟨r, hr⟩ : ∃ z, P[k]? = some z := ⟨_, List.getElem?_eq_getElem (by have := unhide HPM; have := unhide HMN; omega)⟩
    have HRR := hide hr
    have HCR : Hid (Cps r) := hide (unhide HCP r (List.mem_of_getElem? hr))
    obtain ⟨o1, o2, o3, o4⟩ := (unhide HC).oks (by have := unhide HPM; have := unhide HMN; omega) hr (unhide HCR) (unhide HL) (unhide HMM).1 (unhide HMM).2
    have HO1 := hide o1
    have HO2 := hide o2
    have HO3 := hide o3
    have HO4 := hide o4
    have hmo := (unhide HC).most
    have ndI : (nd : Int) ≤ 4398046511104 := by have := (unhide HMM).1; omega
    have c0 : wr.cell? ⟨bb, 0, none⟩ = some (.slice (some ⟨gP, 0, none⟩) m cP) := (unhide HR).cell 0
    have c1 : wr.cell? ⟨bb, 1, none⟩ = some (.slice aD n cD) := (unhide HR).cell 1
    have c2 : wr.cell? ⟨gP, k, none⟩ = some (.string (txB r)) := ((unhide HW).cp hr).1
    have kM : (k : Int) < (m : Int) := by have := unhide HMN; omega
    have kN : (k : Int) ≤ (n : Int) := by omega
    have happ : txB q ++ txB r = txB (q ++ r) := txB_app q r
    have hsz : (txB q).size + (txB r).size ≤ 9223372036854775807 := by
      have h1 : (txB (q ++ r)).size = (txB q).size + (txB r).size := by rw [txB_size, txB_size, txB_size, List.flatten_append, List.length_append]
      omega
    have HCQ : Hid (Cps (q ++ r)) := hide ((unhide HC).cps.append (unhide HCR))
    clear o1 o2 o3 o4 hmo
    by_cases hlt : k < n
    · have hne : ((k : Int) == (n : Int)) = false := by
        have : ¬ (k : Int) = (n : Int) := by omega
        simpa using this
      obtain ⟨b, hb⟩ : ∃ z, D[k]? = some z := ⟨_, List.getElem?_eq_getElem (by have := unhide HDN; omega)⟩
      obtain ⟨gD, cE, hv, c3, -, -, -, -, -⟩ := (unhide HW).rd_d hb
      obtain ⟨rfl, -⟩ : aD = some ⟨gD, 0, none⟩ ∧ True := by
        injection hv with h1
        exact ⟨h1, trivial⟩
      clear hv
      have kn : (k : Int) < (n : Int) := by omega
      cases b with
      | true =>
        have HNX := hide ((unhide HC).drops hr hb (unhide HCR))
        clear hr hb
        go_wp2_with fail
        try simp only [happ]
        exact ⟨⟨k + 1, nd + 1, q ++ r, by omega, rfl, by simp, by simp, hide ⟨out, unhide HO, unhide HNX⟩, HW, HR, HB⟩, by simp [intOf]; omega⟩
      | false =>
        have HNX := hide ((unhide HC).keeps hr hb (unhide HCR))
        have HBO := hide (rboth_any (n := nd) (unhide HO) (unhide HB) (Nat.le_refl _) (unhide HCQ) (unhide HO1) (unhide HO2) (unhide HO4) (by omega))
        clear hr hb
        go_wp2_with fail
        try simp only [happ]
        refine Calls.mono (unhide HBO) ?_
        rintro rr w2 ⟨v2, rfl, hv2, hb2⟩
        have HV2 := hide hv2
        have HB2 := hide ((unhide HB).trans (hb2.mono (unhide HB).size))
        have HW2 := hide ((unhide HW).call hb2)
        have HR2 := hide ((unhide HR).below hb2 (unhide HR).lt)
        have HON := hide (one_own (w := w) (p := ⟨1, 1, ByteArray.empty⟩) (unhide HV2) (unhide HB2) (Nat.le_refl _) (unhide HO3).1 (unhide HO3).2)
        clear hv2 hb2 HBO HW HR HB c0 c1 c2 c3
        go_wp2_with fail
        refine Calls.mono (unhide HON) ?_
        rintro rr w3 ⟨v3, rfl, hv3, hb3⟩
        have HV3 := hide hv3
        have HB3 := hide ((unhide HB2).trans (hb3.mono (unhide HB2).size))
        have HW3 := hide ((unhide HW2).call hb3)
        have HR3 := hide ((unhide HR2).below hb3 (unhide HR2).lt)
        clear hv3 hb3 HON HW2 HR2 HB2 HV2
        go_wp2_with fail
        exact ⟨⟨k + 1, 0, [], by omega, rfl, by simp, by simp, hide ⟨_, unhide HV3, unhide HNX⟩, HW3, HR3, HB3⟩, by simp [intOf]; omega⟩
    · obtain rfl : n = k := by omega
      have HEN : Hid (NfG 0 (bothL out (q ++ r) nd) ∧ atomsL (bothL out (q ++ r) nd) = At.can (wAts P D)) := hide (by
        have h1 := unhide HC
        rw [← unhide HDN] at h1
        exact h1.ends (unhide HL) (by rw [unhide HDN]; exact hr) (unhide HCR))
      have HBO := hide (rboth_any (n := nd) (unhide HO) (unhide HB) (Nat.le_refl _) (unhide HCQ) (unhide HO1) (unhide HO2) (unhide HO4) (by omega))
      clear hr
      go_wp2_with fail
      try simp only [happ]
      refine Calls.mono (unhide HBO) ?_
      rintro rr w2 ⟨v2, rfl, hv2, hb2⟩
      have HV2 := hide hv2
      have HB2 := hide ((unhide HB).trans (hb2.mono (unhide HB).size))
      clear hv2 hb2
      go_wp2_with fail
      go_ret
      exact ⟨_, _, rfl, unhide HV2, (unhide HEN).1, (unhide HEN).2, unhide HB2⟩
end Go.Proofs.YtdnbhomjfgpcfaaDoor
