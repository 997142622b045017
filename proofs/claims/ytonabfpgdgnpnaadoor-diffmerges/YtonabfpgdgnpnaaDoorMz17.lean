/- Parts of the walk: Clo, Rtr, Rap, DMl, DMm, DMr. -/
import Derived.Test.YtonabfpgdgnpnaaDoorMz13
import Derived.Test.YtonabfpgdgnpnaaDoorMz11
import Derived.Test.YtonabfpgdgnpnaaDoorMz16
import Derived.Test.YtonabfpgdgnpnaaDoorMz15
import Derived.Test.YtonabfpgdgnpnaaDoorMz14
import Derived.Test.YtonabfpgdgnpnaaDoorMz08
import Derived.Test.YtonabfpgdgnpnaaDoorMz12
namespace Go.Proofs.YtonabfpgdgnpnaaDoor
set_option linter.unusedVariables false
set_option linter.unusedSimpArgs false
open Go.ChangeShapes Go.WideShapes Go.ChangeAt Go.RowKit Go.Joins Go.Deep

set_option maxRecDepth 100000 in
set_option maxHeartbeats 4000000 in
theorem rput_any {q : List (List UInt8)} (hq : Cps q) (w : World) (hs : (txB q).size ≤ 140737488355328) :
    Calls Tryd.prog 89 #[.string (txB q)] w fun r w' => r = .returned (.agg #[.int .i64 2, .int .i64 (q.length : Int), .string (txB q)]) ∧ Below w.heap.size w w' := by
  obtain ⟨s, hss⟩ : ∃ z, txB q = z := ⟨_, rfl⟩
  have HTX := hide (tx_txB hq)
  rw [hss] at HTX hs ⊢
  have HB0 : Hid (Below w.heap.size w (w.alloc (.cells #[.int .i64 0, .int .i64 0, .string { data := #[] }] 39))) := hide ((Below.refl _ _).alloc (Nat.le_refl _) _)
  have HRA := hide (RowAt.new w 39 [.int .i64 0, .int .i64 0, .string { data := #[] }])
  have hval : runeV s.data.toList = (q.length : Int) := by
    unfold runeV
    rw [if_pos (unhide HTX).valid]
    have : (⟨s.data.toList.toArray⟩ : ByteArray) = s := by simp
    rw [this, (unhide HTX).count]
  obtain ⟨n, hn⟩ : ∃ z, q.length = z := ⟨_, rfl⟩
  rw [hn] at hval ⊢
  clear hss hn hq HTX
  have HBB : Hid (w.heap.size ≤ w.heap.size) := hide (Nat.le_refl _)
  have hcv := Lib.run_convert_string_bytes (P := Tryd.prog) (w.alloc (.cells #[.int .i64 0, .int .i64 0, .string { data := #[] }] 39)) 9 69 5 s Tryd.underlying9 Tryd.underlying69 Tryd.underlying5
  have HBY := hide (bw_bys (w.alloc (.cells #[.int .i64 0, .int .i64 0, .string { data := #[] }] 39)) s)
  have HB1 := hide (bw_below (w.alloc (.cells #[.int .i64 0, .int .i64 0, .string { data := #[] }] 39)) s)
  have HCA := hide (And.intro (grownCap_ge (w.alloc (.cells #[.int .i64 0, .int .i64 0, .string { data := #[] }] 39)) s.size 0 5) (grownCap_le_maxLen (w.alloc (.cells #[.int .i64 0, .int .i64 0, .string { data := #[] }] 39)) s.size 0 5 (by unfold maxLen; omega)))
  have HS := hide hs
  obtain ⟨cap, hcap⟩ : ∃ z, grownCap (w.alloc (.cells #[.int .i64 0, .int .i64 0, .string { data := #[] }] 39)) s.size 0 5 = z := ⟨_, rfl⟩
  obtain ⟨W1, hW1⟩ : ∃ z, Lib.bytesWorld (w.alloc (.cells #[.int .i64 0, .int .i64 0, .string { data := #[] }] 39)) 5 s = z := ⟨_, rfl⟩
  obtain ⟨g, hg⟩ : ∃ z, (w.alloc (.cells #[.int .i64 0, .int .i64 0, .string { data := #[] }] 39)).heap.size = z := ⟨_, rfl⟩
  have HR1 : Hid (RowAt W1 w.heap.size 39 [.int .i64 0, .int .i64 0, .string { data := #[] }]) := hide (by rw [← hW1]; exact (unhide HRA).below (unhide HB1) (unhide HRA).lt)
  have HB2 : Hid (Below w.heap.size w W1) := hide (by rw [← hW1]; exact (unhide HB0).trans ((unhide HB1).mono (unhide HB0).size))
  rw [hcap] at hcv HCA
  rw [hW1] at hcv HBY
  rw [hg] at hcv HBY
  clear hcap hW1 hg hs HB1 HRA HB0
  have HRU : Hid (Calls Tryd.prog 48 #[.slice (some ⟨g, 0, none⟩) s.size cap] W1 fun r w' => r = .returned (.int .i64 (n : Int)) ∧ W1 = w') := hide (by have := runes_any g cap s.data.toList W1 (unhide HBY) (by rw [← Lib.size_eq]; exact (unhide HCA).1) (unhide HCA).2 (by rw [← Lib.size_eq]; have := unhide HS; omega) (some ⟨g, 0, none⟩) (fun _ => rfl); rw [← Lib.size_eq, hval] at this; exact this)
  clear hval HBY HCA
  have c0 : W1.cell? ⟨w.heap.size, 0, none⟩ = some (.int .i64 0) := (unhide HR1).cell 0
  have c1 : W1.cell? ⟨w.heap.size, 1, none⟩ = some (.int .i64 0) := (unhide HR1).cell 1
  have c2 : W1.cell? ⟨w.heap.size, 2, none⟩ = some (.string { data := #[] }) := (unhide HR1).cell 2
  have f0 := (unhide HR1).frozen 0
  have f1 := (unhide HR1).frozen 1
  have f2 := (unhide HR1).frozen 2
  have HFI : Hid (RowAt (((W1.setCell ⟨w.heap.size, 0, none⟩ (.int .i64 2)).setCell ⟨w.heap.size, 1, none⟩ (.int .i64 (n : Int))).setCell ⟨w.heap.size, 2, none⟩ (.string s)) w.heap.size 39 [.int .i64 2, .int .i64 (n : Int), .string s] ∧ Below w.heap.size w (((W1.setCell ⟨w.heap.size, 0, none⟩ (.int .i64 2)).setCell ⟨w.heap.size, 1, none⟩ (.int .i64 (n : Int))).setCell ⟨w.heap.size, 2, none⟩ (.string s))) := hide ⟨(((unhide HR1).set 0 (.int .i64 2)).set 1 (.int .i64 (n : Int))).set 2 (.string s), (((unhide HB2).setCell (unhide HBB) _).setCell (unhide HBB) _).setCell (unhide HBB) _⟩
  go_enter Tryd.func89, Tryd.ntmps89
  go_wp2_with fail
  refine Calls.mono (unhide HRU) ?_
  rintro r w2 ⟨rfl, rfl⟩
  go_wp2_with fail
  obtain ⟨wF, hF⟩ : ∃ z, ((W1.setCell ⟨w.heap.size, 0, none⟩ (.int .i64 2)).setCell ⟨w.heap.size, 1, none⟩ (.int .i64 (n : Int))).setCell ⟨w.heap.size, 2, none⟩ (.string s) = z := ⟨_, rfl⟩
  simp only [hF] at HFI ⊢
  clear hF
  have q0 : wF.cell? ⟨w.heap.size, 0, none⟩ = some (.int .i64 2) := (unhide HFI).1.cell 0
  have q1 : wF.cell? ⟨w.heap.size, 1, none⟩ = some (.int .i64 (n : Int)) := (unhide HFI).1.cell 1
  have q2 : wF.cell? ⟨w.heap.size, 2, none⟩ = some (.string s) := (unhide HFI).1.cell 2
  refine bodyPost_ret (v := .agg #[.int .i64 2, .int .i64 (n : Int), .string s]) (by simp [results, Tryd.results89, go_sem, q0, q1, q2]) rfl ?_
  exact ⟨rfl, (unhide HFI).2⟩
set_option maxRecDepth 100000 in
set_option maxHeartbeats 4000000 in
theorem rboth_any {w W : World} {B : Nat} {v : Value} {out : List Pt} {q : List (List UInt8)} {n : Nat} (ho : OwnP W B v out) (hb : Below B w W) (hB : B ≤ w.heap.size) (hq : Cps q) (h1 : q ≠ [] → OneOk out ⟨2, (q.length : Int), txB q⟩) (h2 : n ≠ 0 → OneOk (putL out q) ⟨3, (n : Int), ByteArray.empty⟩) (hs : (txB q).size ≤ 4398046511104) (hnI : (n : Int) ≤ 4398046511104) :
    Calls Tryd.prog 86 #[v, .string (txB q), .int .i64 (n : Int)] W fun r w' => ∃ v', r = .returned v' ∧ OwnP w' B v' (bothL out q n) ∧ Below W.heap.size W w' := by
  have HO := hide ho
  have HBW := hide (And.intro hb hB)
  have H1 := hide h1
  have H2 := hide h2
  have HR0 := hide (Below.refl W.heap.size W)
  clear ho hb hB h1 h2
  by_cases hqe : q = []
  · subst hqe
    rw [txB_nil]
    have HPL : Hid (putL out [] = out) := hide (by unfold putL; rw [if_pos rfl])
    clear H1 hq hs
    by_cases hn : n = 0
    · subst hn
      have HF : Hid (bothL out [] 0 = out) := hide (by unfold bothL dropL; rw [if_pos rfl]; exact unhide HPL)
      go_enter Tryd.func86, Tryd.ntmps86
      go_wp2_with fail
      go_ret
      exact ⟨_, rfl, by rw [unhide HF]; exact unhide HO, unhide HR0⟩
    · have nI : (0 : Int) < (n : Int) := by omega
      have HF : Hid (bothL out [] n = oneL out ⟨3, (n : Int), ByteArray.empty⟩) := hide (by unfold bothL dropL; rw [if_neg hn, unhide HPL])
      have HOK : Hid (OneOk out ⟨3, (n : Int), ByteArray.empty⟩) := hide (by have := unhide H2 hn; rw [unhide HPL] at this; exact this)
      have HON := hide (one_own (w := w) (p := ⟨3, (n : Int), ByteArray.empty⟩) (unhide HO) (unhide HBW).1 (unhide HBW).2 (unhide HOK).1 (unhide HOK).2)
      clear hn
      go_enter Tryd.func86, Tryd.ntmps86
      go_wp2_with fail
      refine Calls.mono (unhide HON) ?_
      rintro r w9 ⟨v9, rfl, ho9, hb9⟩
      have HO9 := hide ho9
      have HB9 := hide hb9
      clear ho9 hb9 HON
      go_wp2_with fail
      go_ret
      exact ⟨_, rfl, by rw [unhide HF]; exact unhide HO9, unhide HB9⟩
  · have HPL : Hid (putL out q = oneL out ⟨2, (q.length : Int), txB q⟩) := hide (by unfold putL; rw [if_neg hqe])
    have HPU := hide (rput_any hq W (by omega))
    have HON : Hid (∀ W', Below W.heap.size W W' → Calls Tryd.prog 55 #[v, .agg #[.int .i64 2, .int .i64 (q.length : Int), .string (txB q)]] W' fun r w' => ∃ v', r = .returned v' ∧ OwnP w' B v' (oneL out ⟨2, (q.length : Int), txB q⟩) ∧ Below W'.heap.size W' w') := hide (fun W' hW' => one_own (w := w) (p := ⟨2, (q.length : Int), txB q⟩) ((unhide HO).call hW') ((unhide HBW).1.trans (hW'.mono (Nat.le_trans (unhide HBW).2 (unhide HBW).1.size))) (unhide HBW).2 (unhide H1 hqe).1 (unhide H1 hqe).2)
    have hne : (txB q).toList.isEmpty = false := by rw [toList_empty]; exact decide_eq_false (fun e => hqe ((txB_zero hq).1 e))
    obtain ⟨qn, hqn⟩ : ∃ z, q.length = z := ⟨_, rfl⟩
    rw [hqn] at HPU HON HPL
    obtain ⟨s, hss⟩ : ∃ z, txB q = z := ⟨_, rfl⟩
    rw [hss] at HPU HON HPL hne ⊢
    clear hqn hss H1 hq hs hqe
    by_cases hn : n = 0
    · subst hn
      have HF : Hid (bothL out q 0 = oneL out ⟨2, (qn : Int), s⟩) := hide (by unfold bothL dropL; rw [if_pos rfl]; exact unhide HPL)
      go_enter Tryd.func86, Tryd.ntmps86
      go_wp2_with fail
      refine Calls.mono (unhide HPU) ?_
      rintro r w2 ⟨rfl, hb2⟩
      have HB2 := hide hb2
      clear hb2 HPU
      go_wp2_with fail
      refine Calls.mono (unhide HON _ (unhide HB2)) ?_
      rintro r w3 ⟨v3, rfl, ho3, hb3⟩
      have HO3 := hide ho3
      have HB3 := hide ((unhide HB2).trans (hb3.mono (unhide HB2).size))
      clear ho3 hb3 HON
      go_wp2_with fail
      go_ret
      exact ⟨_, rfl, by rw [unhide HF]; exact unhide HO3, unhide HB3⟩
    · have nI : (0 : Int) < (n : Int) := by omega
      have HF : Hid (bothL out q n = oneL (oneL out ⟨2, (qn : Int), s⟩) ⟨3, (n : Int), ByteArray.empty⟩) := hide (by unfold bothL dropL; rw [if_neg hn, unhide HPL])
      have HOK : Hid (OneOk (oneL out ⟨2, (qn : Int), s⟩) ⟨3, (n : Int), ByteArray.empty⟩) := hide (by have := unhide H2 hn; rw [unhide HPL] at this; exact this)
      clear hn
      go_enter Tryd.func86, Tryd.ntmps86
      go_wp2_with fail
      refine Calls.mono (unhide HPU) ?_
      rintro r w2 ⟨rfl, hb2⟩
      have HB2 := hide hb2
      clear hb2 HPU
      go_wp2_with fail
      refine Calls.mono (unhide HON _ (unhide HB2)) ?_
      rintro r w3 ⟨v3, rfl, ho3, hb3⟩
      have HO3 := hide ho3
      have HB3 := hide ((unhide HB2).trans (hb3.mono (unhide HB2).size))
      clear ho3 hb3 HON
      have HON := hide (one_own (w := w) (p := ⟨3, (n : Int), ByteArray.empty⟩) (unhide HO3) ((unhide HBW).1.trans ((unhide HB3).mono (Nat.le_trans (unhide HBW).2 (unhide HBW).1.size))) (unhide HBW).2 (unhide HOK).1 (unhide HOK).2)
      go_wp2_with fail
      refine Calls.mono (unhide HON) ?_
      rintro r w9 ⟨v9, rfl, ho9, hb9⟩
      have HO9 := hide ho9
      have HB9 := hide ((unhide HB3).trans (hb9.mono (unhide HB3).size))
      clear ho9 hb9 HON
      go_wp2_with fail
      go_ret
      exact ⟨_, rfl, by rw [unhide HF]; exact unhide HO9, unhide HB9⟩
set_option maxRecDepth 100000 in
set_option maxHeartbeats 4000000 in
theorem close_any {B : Nat} {vP vD : Value} {P : List (List (List UInt8))} {D : List Bool} (w : World) (hw : Wd w B vP vD P D) (hl : P.length = D.length + 1) (hcp : ∀ q ∈ P, Cps q) (hM : (wAts P D).length ≤ 4398046511104) (hT : At.toN (wAts P D) ≤ 137438953472) (hD : D.length ≤ 4398046511104) :
    Calls Tryd.prog 73 #[.agg #[vP, vD]] w fun r w' => ∃ v L, r = .returned v ∧ OwnP w' w.heap.size v L ∧ NfG 0 L ∧ atomsL L = At.can (wAts P D) ∧ Below w.heap.size w w' := by
  obtain ⟨q0, hq0⟩ : ∃ z, P[0]? = some z := ⟨_, List.getElem?_eq_getElem (by omega)⟩
  obtain ⟨gP, cP, rfl, -, -, -, -, -, hcP⟩ := hw.rd_p hq0
  obtain ⟨aD, cD, rfl, hcD, -⟩ := own_sl hw.d
  have hb0 : Below w.heap.size w (w.alloc (.cells #[.slice (some ⟨gP, 0, none⟩) P.length cP, .slice aD D.length cD] 113)) := (Below.refl _ _).alloc (Nat.le_refl _) _
  have HB0 := hide hb0
  have HW0 := hide (hw.call hb0)
  have HR0 := hide (RowAt.new w 113 [.slice (some ⟨gP, 0, none⟩) P.length cP, .slice aD D.length cD])
  have HCP := hide hcp
  have HMM := hide (And.intro hM hT)
  have HL := hide hl
  obtain ⟨m, hm⟩ : ∃ z, P.length = z := ⟨_, rfl⟩
  obtain ⟨n, hn⟩ : ∃ z, D.length = z := ⟨_, rfl⟩
  have HPM := hide hm
  have HDN := hide hn
  have nI : (n : Int) ≤ 4398046511104 := by omega
  have HMN : Hid (m = n + 1) := hide (by omega)
  rw [hm, hn] at HW0 HR0 HB0 ⊢
  clear hw hl hcp hM hT hD hq0 hcP hcD hb0 hm hn
  go_enter Tryd.func73, Tryd.ntmps73
  go_wp2_with fail
  obtain ⟨wA, hA⟩ : ∃ z, w.alloc (.cells #[.slice (some ⟨gP, 0, none⟩) m cP, .slice aD n cD] 113) = z := ⟨_, rfl⟩
  obtain ⟨bb, hbb⟩ : ∃ z, w.heap.size = z := ⟨_, rfl⟩
  have HR0 : Hid (RowAt wA bb 113 [.slice (some ⟨gP, 0, none⟩) m cP, .slice aD n cD]) := by rw [← hbb, ← hA]; exact HR0
  have HB0 : Hid (Below w.heap.size w wA) := by rw [← hA]; exact HB0
  have HW0 : Hid (Wd wA B (.slice (some ⟨gP, 0, none⟩) m cP) (.slice aD n cD) P D) := by rw [← hA]; exact HW0
  try simp only [hA]
  try rw [show (Value.pointer (some ({ block := w.heap.size, off := 0 } : Addr))) = Value.pointer (some ({ block := bb, off := 0 } : Addr)) by rw [hbb]]
  clear hA hbb
  have z0 : wA.cell? ⟨bb, 0, none⟩ = some (.slice (some ⟨gP, 0, none⟩) m cP) := (unhide HR0).cell 0
  go_wp2_with fail
  clear z0
  go_loopw [3, 4, 5, 11] (fun o ah dr i wr => ∃ (k nd : Nat) (q : List (List UInt8)), k ≤ n ∧ ah = .string (txB q) ∧ dr = .int .i64 (nd : Int) ∧ i = .int .i64 (k : Int) ∧ Hid (∃ out, OwnP wr w.heap.size o out ∧ ClI P D out q nd k) ∧ Hid (Wd wr B (.slice (some ⟨gP, 0, none⟩) m cP) (.slice aD n cD) P D) ∧ Hid (RowAt wr bb 113 [.slice (some ⟨gP, 0, none⟩) m cP, .slice aD n cD]) ∧ Hid (Below w.heap.size w wr)) (fun _ _ _ i _ => ((n : Int) - intOf i).toNat)
  case atStart => exact ⟨0, 0, [], by omega, rfl, by simp, by simp, hide ⟨[], OwnP.nil _ _, ClI.start P D⟩, HW0, HR0, HB0⟩
  case round =>
    obtain ⟨k, nd, q, hk, rfl, rfl, rfl, HOC, HW, HR, HB⟩ := hrel
    obtain ⟨out, hoo, hcl⟩ := unhide HOC
    have HO := hide hoo
    have HC := hide hcl
    clear hoo hcl HOC
    obtain ⟨r, hr⟩ : ∃ z, P[k]? = some z := ⟨_, List.getElem?_eq_getElem (by have := unhide HPM; have := unhide HMN; omega)⟩
    have HRR := hide hr
    have HCR : Hid (Cps r) := hide (unhide HCP r (List.mem_of_getElem? hr))
    obtain ⟨o1, o2, o3, o4⟩ := (unhide HC).oks (by have := unhide HPM; have := unhide HMN; omega) hr (unhide HCR) (unhide HL) (unhide HMM).1 (unhide HMM).2
    have HO1 := hide o1
    have HO2 := hide o2
    have HO3 := hide o3
    have HO4 := hide o4
    have hmo := (unhide HC).most
    have ndI : (nd : Int) ≤ 4398046511104 := by have := (unhide HMM).1; omega
    have c0 : wr.cell? ⟨bb, 0, none⟩ = some (.slice (some ⟨gP, 0, none⟩) m cP) := (unhide HR).cell 0
    have c1 : wr.cell? ⟨bb, 1, none⟩ = some (.slice aD n cD) := (unhide HR).cell 1
    have c2 : wr.cell? ⟨gP, k, none⟩ = some (.string (txB r)) := ((unhide HW).cp hr).1
    have kM : (k : Int) < (m : Int) := by have := unhide HMN; omega
    have kN : (k : Int) ≤ (n : Int) := by omega
    have happ : txB q ++ txB r = txB (q ++ r) := txB_app q r
    have hsz : (txB q).size + (txB r).size ≤ 9223372036854775807 := by
      have h1 : (txB (q ++ r)).size = (txB q).size + (txB r).size := by rw [txB_size, txB_size, txB_size, List.flatten_append, List.length_append]
      omega
    have HCQ : Hid (Cps (q ++ r)) := hide ((unhide HC).cps.append (unhide HCR))
    clear o1 o2 o3 o4 hmo
    by_cases hlt : k < n
    · have hne : ((k : Int) == (n : Int)) = false := by
        have : ¬ (k : Int) = (n : Int) := by omega
        simpa using this
      obtain ⟨b, hb⟩ : ∃ z, D[k]? = some z := ⟨_, List.getElem?_eq_getElem (by have := unhide HDN; omega)⟩
      obtain ⟨gD, cE, hv, c3, -, -, -, -, -⟩ := (unhide HW).rd_d hb
      obtain ⟨rfl, -⟩ : aD = some ⟨gD, 0, none⟩ ∧ True := by
        injection hv with h1
        exact ⟨h1, trivial⟩
      clear hv
      have kn : (k : Int) < (n : Int) := by omega
      cases b with
      | true =>
        have HNX := hide ((unhide HC).drops hr hb (unhide HCR))
        clear hr hb
        go_wp2_with fail
        try simp only [happ]
        exact ⟨⟨k + 1, nd + 1, q ++ r, by omega, rfl, by simp, by simp, hide ⟨out, unhide HO, unhide HNX⟩, HW, HR, HB⟩, by simp [intOf]; omega⟩
      | false =>
        have HNX := hide ((unhide HC).keeps hr hb (unhide HCR))
        have HBO := hide (rboth_any (n := nd) (unhide HO) (unhide HB) (Nat.le_refl _) (unhide HCQ) (unhide HO1) (unhide HO2) (unhide HO4) (by omega))
        clear hr hb
        go_wp2_with fail
        try simp only [happ]
        refine Calls.mono (unhide HBO) ?_
        rintro rr w2 ⟨v2, rfl, hv2, hb2⟩
        have HV2 := hide hv2
        have HB2 := hide ((unhide HB).trans (hb2.mono (unhide HB).size))
        have HW2 := hide ((unhide HW).call hb2)
        have HR2 := hide ((unhide HR).below hb2 (unhide HR).lt)
        have HON := hide (one_own (w := w) (p := ⟨1, 1, ByteArray.empty⟩) (unhide HV2) (unhide HB2) (Nat.le_refl _) (unhide HO3).1 (unhide HO3).2)
        clear hv2 hb2 HBO HW HR HB c0 c1 c2 c3
        go_wp2_with fail
        refine Calls.mono (unhide HON) ?_
        rintro rr w3 ⟨v3, rfl, hv3, hb3⟩
        have HV3 := hide hv3
        have HB3 := hide ((unhide HB2).trans (hb3.mono (unhide HB2).size))
        have HW3 := hide ((unhide HW2).call hb3)
        have HR3 := hide ((unhide HR2).below hb3 (unhide HR2).lt)
        clear hv3 hb3 HON HW2 HR2 HB2 HV2
        go_wp2_with fail
        exact ⟨⟨k + 1, 0, [], by omega, rfl, by simp, by simp, hide ⟨_, unhide HV3, unhide HNX⟩, HW3, HR3, HB3⟩, by simp [intOf]; omega⟩
    · obtain rfl : n = k := by omega
      have HEN : Hid (NfG 0 (bothL out (q ++ r) nd) ∧ atomsL (bothL out (q ++ r) nd) = At.can (wAts P D)) := hide (by
        have h1 := unhide HC
        rw [← unhide HDN] at h1
        exact h1.ends (unhide HL) (by rw [unhide HDN]; exact hr) (unhide HCR))
      have HBO := hide (rboth_any (n := nd) (unhide HO) (unhide HB) (Nat.le_refl _) (unhide HCQ) (unhide HO1) (unhide HO2) (unhide HO4) (by omega))
      clear hr
      go_wp2_with fail
      try simp only [happ]
      refine Calls.mono (unhide HBO) ?_
      rintro rr w2 ⟨v2, rfl, hv2, hb2⟩
      have HV2 := hide hv2
      have HB2 := hide ((unhide HB).trans (hb2.mono (unhide HB).size))
      clear hv2 hb2
      go_wp2_with fail
      go_ret
      exact ⟨_, _, rfl, unhide HV2, (unhide HEN).1, (unhide HEN).2, unhide HB2⟩
end Go.Proofs.YtonabfpgdgnpnaaDoor

namespace Go.Proofs.YtonabfpgdgnpnaaDoor
set_option linter.unusedVariables false
set_option linter.unusedSimpArgs false
open Go.ChangeShapes Go.WideShapes Go.ChangeAt Go.RowKit Go.Joins Go.Deep

theorem spread_tr {a : Option Addr} {l : List Pt} {c n t : Nat} {W : World} (he : Edit W a l c) (hd : IsEd l n t) (hc : l.length ≤ 4194304) : Calls Tryd.prog 71 #[.slice a l.length c, .int .i64 (n : Int)] W fun r w' => ∃ gP gD m P D, n + 1 = m ∧ r = .returned (.agg #[.slice (some ⟨gP, 0, none⟩) m m, .slice (some ⟨gD, 0, none⟩) n n]) ∧ Wd w' W.heap.size (.slice (some ⟨gP, 0, none⟩) m m) (.slice (some ⟨gD, 0, none⟩) n n) P D ∧ WdL P D n (atomsL l) ∧ Below W.heap.size W w' := Calls.mono (spread_any a l c n t W he.pts hd hc) (by
    rintro r w' ⟨gP, gD, m, P, D, h1, h2, h3, h4, h5, h6, h7, h8⟩
    exact ⟨gP, gD, m, P, D, h1, h2, h3, ⟨h4, h5, h6, h7⟩, h8⟩)
theorem to_fp (x : List At) : At.toN x ≤ At.fromN x + At.putsN x := by
  induction x with
  | nil => simp [At.toN]
  | cons s x ih => cases s <;> simp only [At.toN, At.fromN, At.putsN] <;> omega
theorem puts_to (x : List At) : At.putsN x ≤ At.toN x := by
  induction x with
  | nil => simp [At.putsN]
  | cons s x ih => cases s <;> simp only [At.toN, At.putsN] <;> omega
theorem mt_long {x y : List At} (h : At.fromN x = At.fromN y) (hx : At.toN x ≤ 4096) (hy : At.toN y ≤ 4096) : (At.one x y).length ≤ 65536 ∧ (At.two x y).length ≤ 65536 ∧ At.toN (At.one x y) ≤ 16384 ∧ At.toN (At.two x y) ≤ 16384 := by
  have hs := At.sizes x y h
  have h1 := at_len (At.one x y)
  have h2 := at_len (At.two x y)
  have h3 := to_fp (At.one x y)
  have h4 := puts_to x
  have h5 := puts_to y
  omega
set_option maxRecDepth 100000 in
set_option maxHeartbeats 4000000 in
theorem rtransform_ed (a b : Option Addr) (la lb : List Pt) (ca cb : Nat) (n ta tb : Nat) (w : World) (ea : Edit w a la ca) (eb : Edit w b lb cb) (ha : IsEd la n ta) (hb : IsEd lb n tb) (hn : n ≤ 4096) (hta : ta ≤ 4096) (htb : tb ≤ 4096) (hla : la.length ≤ 4194304) (hlb : lb.length ≤ 4194304) :
    Calls Tryd.prog 44 #[.slice a la.length ca, .slice b lb.length cb] w fun r w' => ∃ v1 v2 L1 L2, r = .returned (.tuple #[v1, v2, .int .i64 0]) ∧ OwnP w' w.heap.size v1 L1 ∧ OwnP w' w.heap.size v2 L2 ∧ NfG 0 L1 ∧ NfG 0 L2 ∧ atomsL L1 = At.can (At.one (atomsL la) (atomsL lb)) ∧ atomsL L2 = At.can (At.two (atomsL la) (atomsL lb)) ∧ Below w.heap.size w w' := by
  have HSA := hide (rsize_at (w := w) ea rfl (Below.refl _ _))
  have HSB : Hid (∀ W, Below w.heap.size w W → Calls Tryd.prog 70 #[.slice b lb.length cb] W fun r w' => r = .returned (szVal lb) ∧ Below W.heap.size W w') := hide (fun W hW => rsize_at (w := W) (eb.call hW) rfl (Below.refl _ _))
  have e : szVal la = .tuple #[.int .i64 (n : Int), .int .i64 (ta : Int), .int .i64 0] := by unfold szVal; rw [ed_size ha]
  have f : szVal lb = .tuple #[.int .i64 (n : Int), .int .i64 (tb : Int), .int .i64 0] := by unfold szVal; rw [ed_size hb]
  rw [e] at HSA
  rw [f] at HSB
  have HPA := hide (fun W (hW : Below w.heap.size w W) => spread_tr (ea.call hW) ha hla)
  have HPB := hide (fun W (hW : Below w.heap.size w W) => spread_tr (eb.call hW) hb hlb)
  have HLO := hide (mt_long (x := atomsL la) (y := atomsL lb) (by rw [ha.2.1, hb.2.1]) (by rw [ha.2.2.1]; exact hta) (by rw [hb.2.2.1]; exact htb))
  have HTA : Hid (At.toN (atomsL la) ≤ 65536) := hide (by rw [ha.2.2.1]; omega)
  have HTB : Hid (At.toN (atomsL lb) ≤ 65536) := hide (by rw [hb.2.2.1]; omega)
  have HNN := hide hn
  obtain ⟨na, hna⟩ : ∃ z, la.length = z := ⟨_, rfl⟩
  obtain ⟨nb, hnb⟩ : ∃ z, lb.length = z := ⟨_, rfl⟩
  rw [hna] at HSA HPA ⊢
  rw [hnb] at HSB HPB ⊢
  clear ea eb ha hb hn hta htb hla hlb hna hnb e f
  go_enter Tryd.func44, Tryd.ntmps44
  go_wp2_with fail
  refine Calls.mono (unhide HSA) ?_
  rintro r w1 ⟨rfl, hb1⟩
  have HB1 := hide hb1
  clear hb1 HSA
  go_wp2_with fail
  refine Calls.mono (unhide HSB _ (unhide HB1)) ?_
  rintro r w2 ⟨rfl, hb2⟩
  have HB2 := hide ((unhide HB1).trans (hb2.mono (unhide HB1).size))
  clear hb2 HSB HB1
  go_wp2_with fail
  refine Calls.mono (unhide HPA _ (unhide HB2)) ?_
  rintro r w3 ⟨xP, xD, m, XP, XD, hm, rfl, hxd, hxl, hb3⟩
  have HM := hide hm
  have HB3 := hide ((unhide HB2).trans (hb3.mono (unhide HB2).size))
  have HXL := hide hxl
  have HX3 := hide (hxd.base (unhide HB2).size)
  clear hb3 HPA hxd hxl HB2
  go_wp2_with fail
  refine Calls.mono (unhide HPB _ (unhide HB3)) ?_
  rintro r w4 ⟨yP, yD, k, YP, YD, hk, rfl, hyd, hyl, hb4⟩
  obtain rfl : m = k := by omega
  have HB4 := hide ((unhide HB3).trans (hb4.mono (unhide HB3).size))
  have HYL := hide hyl
  have HY4 := hide (hyd.base (unhide HB3).size)
  have HX4 := hide ((unhide HX3).call hb4)
  clear hb4 HPB hk hyd hyl HB3 HX3 hm
  have hba : Below w4.heap.size w4 (w4.alloc (.cells #[.slice (some ⟨xP, 0, none⟩) m m, .slice (some ⟨xD, 0, none⟩) n n] 113)) := (Below.refl _ _).alloc (Nat.le_refl _) _
  have hbb : Below (w4.alloc (.cells #[.slice (some ⟨xP, 0, none⟩) m m, .slice (some ⟨xD, 0, none⟩) n n] 113)).heap.size (w4.alloc (.cells #[.slice (some ⟨xP, 0, none⟩) m m, .slice (some ⟨xD, 0, none⟩) n n] 113)) ((w4.alloc (.cells #[.slice (some ⟨xP, 0, none⟩) m m, .slice (some ⟨xD, 0, none⟩) n n] 113)).alloc (.cells #[.slice (some ⟨yP, 0, none⟩) m m, .slice (some ⟨yD, 0, none⟩) n n] 113)) := (Below.refl _ _).alloc (Nat.le_refl _) _
  have HRX := hide ((RowAt.new w4 113 [.slice (some ⟨xP, 0, none⟩) m m, .slice (some ⟨xD, 0, none⟩) n n]).below hbb (by simp))
  have HRY := hide (RowAt.new (w4.alloc (.cells #[.slice (some ⟨xP, 0, none⟩) m m, .slice (some ⟨xD, 0, none⟩) n n] 113)) 113 [.slice (some ⟨yP, 0, none⟩) m m, .slice (some ⟨yD, 0, none⟩) n n])
  have HB6 := hide (((unhide HB4).trans (hba.mono (unhide HB4).size)).trans (hbb.mono (Nat.le_trans (unhide HB4).size hba.size)))
  have HX6 := hide (((unhide HX4).call hba).call hbb)
  have HY6 := hide (((unhide HY4).call hba).call hbb)
  clear hba hbb HX4 HY4 HB4
  go_wp2_with fail
  obtain ⟨wA, hA⟩ : ∃ z, (w4.alloc (.cells #[.slice (some ⟨xP, 0, none⟩) m m, .slice (some ⟨xD, 0, none⟩) n n] 113)).alloc (.cells #[.slice (some ⟨yP, 0, none⟩) m m, .slice (some ⟨yD, 0, none⟩) n n] 113) = z := ⟨_, rfl⟩
  rw [size_alloc] at HRY
  rw [hA] at HRX HRY HB6 HX6 HY6
  simp only [hA]
  obtain ⟨gX, hgX⟩ : ∃ z, w4.heap.size = z := ⟨_, rfl⟩
  obtain ⟨gY, hgY⟩ : ∃ z, gX + 1 = z := ⟨_, rfl⟩
  rw [hgX] at HRX HRY
  rw [hgY] at HRY
  simp only [hgX, hgY]
  clear hA hgX hgY
  have HSS : Hid (∀ W, Below wA.heap.size wA W → W.cell? ⟨gX, 0, none⟩ = some (.slice (some ⟨xP, 0, none⟩) m m) ∧ W.cell? ⟨gX, 1, none⟩ = some (.slice (some ⟨xD, 0, none⟩) n n) ∧ W.cell? ⟨gY, 0, none⟩ = some (.slice (some ⟨yP, 0, none⟩) m m) ∧ W.cell? ⟨gY, 1, none⟩ = some (.slice (some ⟨yD, 0, none⟩) n n)) := hide (fun W hW => ⟨((unhide HRX).below hW (unhide HRX).lt).cell 0, ((unhide HRX).below hW (unhide HRX).lt).cell 1, ((unhide HRY).below hW (unhide HRY).lt).cell 0, ((unhide HRY).below hW (unhide HRY).lt).cell 1⟩)
  have HM1 : Hid (∀ W, Below wA.heap.size wA W → Calls Tryd.prog 72 #[.agg #[.slice (some ⟨xP, 0, none⟩) m m, .slice (some ⟨xD, 0, none⟩) n n], .agg #[.slice (some ⟨yP, 0, none⟩) m m, .slice (some ⟨yD, 0, none⟩) n n], .bool true] W fun e w' => ∃ zP zD ZP ZD, e = .returned (.agg #[zP, zD]) ∧ Wd w' W.heap.size zP zD ZP ZD ∧ ZL ZP ZD (At.one (atomsL la) (atomsL lb)) ∧ Below W.heap.size W w') := hide (fun W hW => by
    have h := rmeetW_any true ((unhide HX6).call hW) ((unhide HY6).call hW) (unhide HXL) (unhide HYL) (unhide HM) (unhide HNN) (unhide HLO).1 (unhide HTA) (unhide HTB)
    exact h)
  have HM2 : Hid (∀ W, Below wA.heap.size wA W → Calls Tryd.prog 72 #[.agg #[.slice (some ⟨yP, 0, none⟩) m m, .slice (some ⟨yD, 0, none⟩) n n], .agg #[.slice (some ⟨xP, 0, none⟩) m m, .slice (some ⟨xD, 0, none⟩) n n], .bool false] W fun e w' => ∃ zP zD ZP ZD, e = .returned (.agg #[zP, zD]) ∧ Wd w' W.heap.size zP zD ZP ZD ∧ ZL ZP ZD (At.two (atomsL la) (atomsL lb)) ∧ Below W.heap.size W w') := hide (fun W hW => by
    have h := rmeetW_any false ((unhide HY6).call hW) ((unhide HX6).call hW) (unhide HYL) (unhide HXL) (unhide HM) (unhide HNN) (unhide HLO).2.1 (unhide HTB) (unhide HTA)
    exact h)
  have HV0 := hide ((Below.refl wA.heap.size wA).drew)
  refine wp_region_T (S := fun W => W.cell? ⟨gX, 0, none⟩ = some (.slice (some ⟨xP, 0, none⟩) m m) ∧ W.cell? ⟨gX, 1, none⟩ = some (.slice (some ⟨xD, 0, none⟩) n n) ∧ W.cell? ⟨gY, 0, none⟩ = some (.slice (some ⟨yP, 0, none⟩) m m) ∧ W.cell? ⟨gY, 1, none⟩ = some (.slice (some ⟨yD, 0, none⟩) n n)) (fun i => decide (i < 11)) (by kernel_rfl) (unhide HSS _ (Below.refl _ _).drew) (fun hHeld => ?_)
  refine tk 0 (v := .agg #[.slice (some ⟨xP, 0, none⟩) m m, .slice (some ⟨xD, 0, none⟩) n n]) rfl (Or.inl ⟨by rfl, ?_⟩) hHeld ?_
  · intro w hSw
    obtain ⟨s0, s1, s2, s3⟩ := hSw
    first
      | rfl
      | (go_simp; done)
  try go_frame
  refine tk 1 (v := .agg #[.slice (some ⟨yP, 0, none⟩) m m, .slice (some ⟨yD, 0, none⟩) n n]) rfl (Or.inl ⟨by rfl, ?_⟩) hHeld ?_
  · intro w hSw
    obtain ⟨s0, s1, s2, s3⟩ := hSw
    first
      | rfl
      | (go_simp; done)
  try go_frame
  refine tk 4 (v := .agg #[.slice (some ⟨yP, 0, none⟩) m m, .slice (some ⟨yD, 0, none⟩) n n]) rfl (Or.inl ⟨by rfl, ?_⟩) hHeld ?_
  · intro w hSw
    obtain ⟨s0, s1, s2, s3⟩ := hSw
    first
      | rfl
      | (go_simp; done)
  try go_frame
  refine tk 5 (v := .agg #[.slice (some ⟨xP, 0, none⟩) m m, .slice (some ⟨xD, 0, none⟩) n n]) rfl (Or.inl ⟨by rfl, ?_⟩) hHeld ?_
  · intro w hSw
    obtain ⟨s0, s1, s2, s3⟩ := hSw
    first
      | rfl
      | (go_simp; done)
  try go_frame
  refine wpAnyT_one (i := 2) (o := { dst := some 46, op := Op.call { callee := Callee.value (Operand.func 72), args := #[Operand.tmp 44, Operand.tmp 45, Operand.const (Value.bool true)], argTypes := #[113, 113, 4] }, type := 113, pos := "ref.go:277", after := #[{ on := 0, ground := Ground.data }, { on := 1, ground := Ground.data }], guard := none }) (by kernel_rfl) rfl (fun K hK => ?_)
  go_simp
  refine Calls.mono (unhide HM1 _ (unhide HV0)) ?_
  rintro e v1 ⟨zP1, zD1, ZP1, ZD1, rfl, hz1, hl1, hb1⟩
  have HV1 := hide ((unhide HV0).trans (hb1.mono (unhide HV0).size))
  have HC1 := hide (close_any v1 hz1 hl1.pl hl1.cps (by rw [hl1.eq]; have := unhide HLO; omega) (by rw [hl1.eq]; have := unhide HLO; omega) (by have h1 := hl1.last.choose_spec.2.2.2; have := unhide HLO; omega))
  rw [hl1.eq] at HC1
  clear hz1 hl1 hb1
  go_wp2_with fail
  refine hK.out _ _ (fun _ => unhide HSS _ (unhide HV1)) ?_
  clear hK K
  try go_frame
  refine wpAnyT_one (i := 3) (o := { dst := some 47, op := Op.call { callee := Callee.value (Operand.func 73), args := #[Operand.tmp 46], argTypes := #[113] }, type := 24, pos := "ref.go:277", after := #[{ on := 2, ground := Ground.data }, { on := 2, ground := Ground.chain }], guard := none }) (by kernel_rfl) rfl (fun K hK => ?_)
  go_simp
  refine Calls.mono (unhide HC1) ?_
  rintro e v2 ⟨u2, L2, rfl, ho2, hn2, ha2, hb2⟩
  have HV2 := hide ((unhide HV1).trans (hb2.mono (unhide HV1).size))
  have HO2 := hide (own_base ho2 (Nat.le_trans (unhide HB6).size (unhide HV1).size))
  have HN2 := hide (And.intro hn2 ha2)
  have HBB2 := hide hb2
  clear ho2 hn2 ha2 hb2 HC1
  go_wp2_with fail
  refine hK.out _ _ (fun _ => unhide HSS _ (unhide HV2)) ?_
  clear hK K
  try go_frame
  refine wpAnyT_one (i := 6) (o := { dst := some 50, op := Op.call { callee := Callee.value (Operand.func 72), args := #[Operand.tmp 48, Operand.tmp 49, Operand.const (Value.bool false)], argTypes := #[113, 113, 4] }, type := 113, pos := "ref.go:277", after := #[{ on := 4, ground := Ground.data }, { on := 5, ground := Ground.data }, { on := 3, ground := Ground.chain }], guard := none }) (by kernel_rfl) rfl (fun K hK => ?_)
  go_simp
  refine Calls.mono (unhide HM2 _ (unhide HV2)) ?_
  rintro e v3 ⟨zP3, zD3, ZP3, ZD3, rfl, hz3, hl3, hb3⟩
  have HV3 := hide ((unhide HV2).trans (hb3.mono (unhide HV2).size))
  have HC3 := hide (close_any v3 hz3 hl3.pl hl3.cps (by rw [hl3.eq]; have := unhide HLO; omega) (by rw [hl3.eq]; have := unhide HLO; omega) (by have h1 := hl3.last.choose_spec.2.2.2; have := unhide HLO; omega))
  rw [hl3.eq] at HC3
  have HB23 := hide hb3
  clear hz3 hl3 hb3
  go_wp2_with fail
  refine hK.out _ _ (fun _ => unhide HSS _ (unhide HV3)) ?_
  clear hK K
  try go_frame
  refine wpAnyT_one (i := 7) (o := { dst := some 51, op := Op.call { callee := Callee.value (Operand.func 73), args := #[Operand.tmp 50], argTypes := #[113] }, type := 24, pos := "ref.go:277", after := #[{ on := 6, ground := Ground.data }, { on := 6, ground := Ground.chain }], guard := none }) (by kernel_rfl) rfl (fun K hK => ?_)
  go_simp
  refine Calls.mono (unhide HC3) ?_
  rintro e v4 ⟨u4, L4, rfl, ho4, hn4, ha4, hb4⟩
  have HV4 := hide ((unhide HV3).trans (hb4.mono (unhide HV3).size))
  have HO4 := hide (own_base ho4 (Nat.le_trans (unhide HB6).size (unhide HV3).size))
  have HN4 := hide (And.intro hn4 ha4)
  have HB24 := hide ((unhide HB23).trans (hb4.mono (unhide HB23).size))
  clear ho4 hn4 ha4 hb4 HC3
  go_wp2_with fail
  refine hK.out _ _ (fun _ => unhide HSS _ (unhide HV4)) ?_
  clear hK K
  try go_frame
  refine tk 8 (v := u2) rfl (Or.inl ⟨by rfl, ?_⟩) (unhide HSS _ (unhide HV4)) ?_
  · intro w hSw
    obtain ⟨s0, s1, s2, s3⟩ := hSw
    first
      | rfl
      | (go_simp; done)
  try go_frame
  refine tk 9 (v := u4) rfl (Or.inl ⟨by rfl, ?_⟩) (unhide HSS _ (unhide HV4)) ?_
  · intro w hSw
    obtain ⟨s0, s1, s2, s3⟩ := hSw
    first
      | rfl
      | (go_simp; done)
  try go_frame
  refine tk 10 (v := .int .i64 0) rfl (Or.inl ⟨by rfl, ?_⟩) (unhide HSS _ (unhide HV4)) ?_
  · intro w hSw
    obtain ⟨s0, s1, s2, s3⟩ := hSw
    first
      | rfl
      | (go_simp; done)
  try go_frame
  refine wpAnyT_done (by kernel_rfl) ?_ _
  have HO5 : Hid (OwnP v4 w.heap.size u2 L2) := hide (own_call (unhide HO2) (unhide HB24))
  go_wp2_with fail
  go_ret3
  exact ⟨_, _, L2, L4, rfl, unhide HO5, unhide HO4, (unhide HN2).1, (unhide HN4).1, (unhide HN2).2, (unhide HN4).2, (unhide HB6).trans ((unhide HV4).mono (unhide HB6).size)⟩
end Go.Proofs.YtonabfpgdgnpnaaDoor

namespace Go.Proofs.YtonabfpgdgnpnaaDoor
set_option linter.unusedVariables false
set_option linter.unusedSimpArgs false
open Go.ChangeShapes Go.WideShapes Go.ChangeAt Go.RowKit Go.Joins Go.Deep

theorem spread_ap {a : Option Addr} {l : List Pt} {c n t : Nat} {W : World} (he : Edit W a l c) (hd : IsEd l n t) (hc : l.length ≤ 4194304) : Calls Tryd.prog 71 #[.slice a l.length c, .int .i64 (n : Int)] W fun r w' => ∃ gP gD m P D, n + 1 = m ∧ r = .returned (.agg #[.slice (some ⟨gP, 0, none⟩) m m, .slice (some ⟨gD, 0, none⟩) n n]) ∧ Wd w' W.heap.size (.slice (some ⟨gP, 0, none⟩) m m) (.slice (some ⟨gD, 0, none⟩) n n) P D ∧ WdL P D n (atomsL l) ∧ Below W.heap.size W w' := Calls.mono (spread_any a l c n t W he.pts hd hc) (by
    rintro r w' ⟨gP, gD, m, P, D, h1, h2, h3, h4, h5, h6, h7, h8⟩
    exact ⟨gP, gD, m, P, D, h1, h2, h3, ⟨h4, h5, h6, h7⟩, h8⟩)
theorem ap_step {P : List (List (List UInt8))} {D : List Bool} {X q cs T : List (List UInt8)} {j : Nat} {b : Bool} {c : List UInt8} (hq : P[j]? = some q) (hb : D[j]? = some b) (hc : cs[j]? = some c) (h : X ++ At.app (wAts (P.drop j) (D.drop j)) (cs.drop j) = T) : (X ++ q ++ kp b c) ++ At.app (wAts (P.drop (j + 1)) (D.drop (j + 1))) (cs.drop (j + 1)) = T := by
  have h1 := List.getElem?_eq_some_iff.1 hc
  rw [List.drop_eq_getElem_cons h1.1, h1.2, wAts_drop hq hb, appW_step] at h
  rw [← h]
  simp only [List.append_assoc]
theorem ap_end {P : List (List (List UInt8))} {D : List Bool} {X q cs T : List (List UInt8)} {n : Nat} {x : List At} (hw : WdL P D n x) (hq : P[n]? = some q) (hl : cs.length = n) (h : X ++ At.app (wAts (P.drop n) (D.drop n)) (cs.drop n) = T) : X ++ q = T := by
  have h1 := wAts_last (by rw [hw.pl, hw.dl]) (by rw [hw.dl]; exact hq)
  rw [hw.dl] at h1
  rw [h1, List.drop_of_length_le (by omega), appW_end] at h
  exact h
theorem apL_le {X Y T : List (List UInt8)} (h : X ++ Y = T) {M : Nat} (hM : T.length ≤ M) : X.length ≤ M := by
  have := congrArg List.length h
  rw [List.length_append] at this
  omega
set_option maxRecDepth 100000 in
set_option maxHeartbeats 4000000 in
theorem rapply_no {a : Option Addr} {l : List Pt} {c : Nat} {s : ByteArray} {w : World} (he : Edit w a l c) (hs : s.size ≤ 140737488355328) (hn : isOfB l s = false) :
    Calls Tryd.prog 45 #[.slice a l.length c, .string s] w fun r w' => r = .returned (.tuple #[.string ByteArray.empty, .int .i64 30]) ∧ Below w.heap.size w w' := by
  have hcv := Lib.run_convert_string_bytes (P := Tryd.prog) w 9 69 5 s Tryd.underlying9 Tryd.underlying69 Tryd.underlying5
  have HBY := hide (bw_bys w s)
  have HB1 := hide (bw_below w s)
  have HCA := hide (And.intro (grownCap_ge w s.size 0 5) (grownCap_le_maxLen w s.size 0 5 (by unfold maxLen; omega)))
  have HS := hide hs
  obtain ⟨cap, hcap⟩ : ∃ z, grownCap w s.size 0 5 = z := ⟨_, rfl⟩
  obtain ⟨W1, hW1⟩ : ∃ z, Lib.bytesWorld w 5 s = z := ⟨_, rfl⟩
  obtain ⟨g, hg⟩ : ∃ z, w.heap.size = z := ⟨_, rfl⟩
  have HB1 : Hid (Below w.heap.size w W1) := by rw [← hW1]; exact HB1
  rw [hcap] at hcv HCA
  rw [hW1] at hcv HBY
  rw [hg] at hcv HBY
  clear hcap hW1 hg hs
  have HRU : Hid (Calls Tryd.prog 48 #[.slice (some ⟨g, 0, none⟩) s.size cap] W1 fun r w' => r = .returned (.int .i64 (runeV s.data.toList)) ∧ W1 = w') := hide (by have := runes_any g cap s.data.toList W1 (unhide HBY) (by rw [← Lib.size_eq]; exact (unhide HCA).1) (unhide HCA).2 (by rw [← Lib.size_eq]; have := unhide HS; omega) (some ⟨g, 0, none⟩) (fun _ => rfl); rw [← Lib.size_eq] at this; exact this)
  have HCK : Hid (∀ W k, Below w.heap.size w W → Calls Tryd.prog 74 #[.slice a l.length c, .int .i64 k] W fun r w' => r = .returned (.int .i64 (checkE l k)) ∧ Below W.heap.size W w') := hide (fun W k hW => rcheck_at (w := W) (he.call hW) rfl (Below.refl _ _))
  obtain ⟨nl, hnl⟩ : ∃ z, l.length = z := ⟨_, rfl⟩
  rw [hnl] at HCK ⊢
  clear hnl he HBY HCA
  unfold isOfB at hn
  cases hv : Lib.validD s.data.toList with
  | false =>
    have e : runeV s.data.toList = -1 := by unfold runeV; rw [if_neg (by rw [hv]; simp)]
    rw [e] at HRU
    clear e hv hn HCK
    go_enter Tryd.func45, Tryd.ntmps45
    go_wp2_with fail
    refine Calls.mono (unhide HRU) ?_
    rintro r w2 ⟨rfl, rfl⟩
    go_wp2_with fail
    go_ret2
    exact ⟨rfl, unhide HB1⟩
  | true =>
    obtain ⟨cs, hcs⟩ := tx_of_valid hv
    have e : runeV s.data.toList = (cs.length : Int) := by
      unfold runeV
      rw [if_pos hv]
      have : (⟨s.data.toList.toArray⟩ : ByteArray) = s := by simp
      rw [this, hcs.count]
    rw [e] at HRU
    rw [hv, hcs.count, Bool.true_and] at hn
    have hck : checkE l (cs.length : Int) = 30 := by
      rcases check_two l (cs.length : Int) with h | h
      · rw [h] at hn; simp at hn
      · exact h
    have HC3 := hide (unhide HCK W1 (cs.length : Int) (unhide HB1))
    rw [hck] at HC3
    obtain ⟨n, hn2⟩ : ∃ z, cs.length = z := ⟨_, rfl⟩
    rw [hn2] at HC3 HRU
    have n0 : ¬ (n : Int) < 0 := by omega
    clear e hv hn hcs hck hn2 HCK
    go_enter Tryd.func45, Tryd.ntmps45
    go_wp2_with fail
    refine Calls.mono (unhide HRU) ?_
    rintro r w2 ⟨rfl, rfl⟩
    go_wp2_with fail
    refine Calls.mono (unhide HC3) ?_
    rintro r w3 ⟨rfl, hb3⟩
    have HB3 := hide ((unhide HB1).trans (hb3.mono (unhide HB1).size))
    clear hb3
    go_wp2_with fail
    go_ret2
    exact ⟨rfl, unhide HB3⟩
set_option maxRecDepth 100000 in
set_option maxHeartbeats 4000000 in
theorem rapply_ok {a : Option Addr} {l : List Pt} {c n t : Nat} {s : ByteArray} {cs : List (List UInt8)} {w : World} (he : Edit w a l c) (hs : s.size ≤ 140737488355328) (hcs : Tx s cs) (hcn : cs.length = n) (hd : IsEd l n t) (hc : l.length ≤ 4194304) :
    Calls Tryd.prog 45 #[.slice a l.length c, .string s] w fun r w' => r = .returned (.tuple #[.string (txB (At.app (atomsL l) cs)), .int .i64 0]) ∧ Below w.heap.size w w' := by
  have hcv := Lib.run_convert_string_bytes (P := Tryd.prog) w 9 69 5 s Tryd.underlying9 Tryd.underlying69 Tryd.underlying5
  have HBY := hide (bw_bys w s)
  have HB1 := hide (bw_below w s)
  have HCA := hide (And.intro (grownCap_ge w s.size 0 5) (grownCap_le_maxLen w s.size 0 5 (by unfold maxLen; omega)))
  have HS := hide hs
  obtain ⟨cap, hcap⟩ : ∃ z, grownCap w s.size 0 5 = z := ⟨_, rfl⟩
  obtain ⟨W1, hW1⟩ : ∃ z, Lib.bytesWorld w 5 s = z := ⟨_, rfl⟩
  obtain ⟨g, hg⟩ : ∃ z, w.heap.size = z := ⟨_, rfl⟩
  have HB1 : Hid (Below w.heap.size w W1) := by rw [← hW1]; exact HB1
  rw [hcap] at hcv HCA
  rw [hW1] at hcv HBY
  rw [hg] at hcv HBY
  clear hcap hW1 hg hs
  have HRU : Hid (Calls Tryd.prog 48 #[.slice (some ⟨g, 0, none⟩) s.size cap] W1 fun r w' => r = .returned (.int .i64 (runeV s.data.toList)) ∧ W1 = w') := hide (by have := runes_any g cap s.data.toList W1 (unhide HBY) (by rw [← Lib.size_eq]; exact (unhide HCA).1) (unhide HCA).2 (by rw [← Lib.size_eq]; have := unhide HS; omega) (some ⟨g, 0, none⟩) (fun _ => rfl); rw [← Lib.size_eq] at this; exact this)
  have hck : checkE l (n : Int) = 0 := by have h := ed_check hd; exact h
  have HCK : Hid (∀ W, Below w.heap.size w W → Calls Tryd.prog 74 #[.slice a l.length c, .int .i64 (n : Int)] W fun r w' => r = .returned (.int .i64 0) ∧ Below W.heap.size W w') := hide (fun W hW => by have h := rcheck_at (w := W) (k := (n : Int)) (he.call hW) rfl (Below.refl _ _); rw [hck] at h; exact h)
  have HPA := hide (fun W (hW : Below w.heap.size w W) => spread_ap (he.call hW) hd hc)
  have hrv : runeV s.data.toList = (n : Int) := by
    unfold runeV
    rw [if_pos hcs.valid]
    have : (⟨s.data.toList.toArray⟩ : ByteArray) = s := by simp
    rw [this, hcs.count, hcn]
  rw [hrv] at HRU
  have HCH : Hid (∀ W : World, Calls Tryd.prog 75 #[.string s] W fun r w' => ∃ v, r = .returned v ∧ w'.ownsRow W.heap.size 9 1 v n (sS (cs.map fun c => [c])) ∧ Below W.heap.size W w') := hide (fun W => by have h := chars_row (w := W) hcs (by rw [hcn]; exact hd.2.2.2.1); rw [hcn] at h; exact h)
  have nI : (n : Int) ≤ 1099511627776 := by have := hd.2.2.2.1; omega
  have n0 : ¬ (n : Int) < 0 := by omega
  have HCS := hide hcs.cps
  have HCN := hide hcn
  have HTL : Hid (t ≤ 1099511627776) := hide hd.2.2.2.2
  have HTN : Hid (At.toN (atomsL l) = t) := hide hd.2.2.1
  have HFN : Hid (At.fromN (atomsL l) = n) := hide hd.2.1
  obtain ⟨nl, hnl⟩ : ∃ z, l.length = z := ⟨_, rfl⟩
  rw [hnl] at HCK HPA ⊢
  clear hnl he hd hc hck hrv hcs hcn HBY HCA
  have HTT : Hid ((At.app (atomsL l) cs).length ≤ 1099511627776) := hide (by rw [At.app_len _ _ (by rw [unhide HCN, unhide HFN]), unhide HTN]; exact unhide HTL)
  obtain ⟨T, hT⟩ : ∃ z, At.app (atomsL l) cs = z := ⟨_, rfl⟩
  have HT := hide hT
  rw [hT] at HTT ⊢
  clear hT
  go_enter Tryd.func45, Tryd.ntmps45
  go_wp2_with fail
  refine Calls.mono (unhide HRU) ?_
  rintro r w2 ⟨rfl, rfl⟩
  clear hcv HRU
  go_wp2_with fail
  refine Calls.mono (unhide HCK _ (unhide HB1)) ?_
  rintro r w3 ⟨rfl, hb3⟩
  have HB3 := hide ((unhide HB1).trans (hb3.mono (unhide HB1).size))
  clear hb3 HB1 HCK
  go_wp2_with fail
  refine Calls.mono (unhide HPA _ (unhide HB3)) ?_
  rintro r w4 ⟨gP, gD, m, P, D, hm, rfl, hwd, hwl, hb4⟩
  have HB4 := hide ((unhide HB3).trans (hb4.mono (unhide HB3).size))
  have HM := hide hm
  have HWL := hide hwl
  have HX4 := hide (WdX.box (w := w) (hwd.base (unhide HB3).size))
  have HB5 := hide ((unhide HB4).alloc (unhide HB4).size (.cells #[.slice (some ⟨gP, 0, none⟩) m m, .slice (some ⟨gD, 0, none⟩) n n] 113))
  clear hb4 hm hwl hwd HPA HB3
  go_wp2_with fail
  obtain ⟨w5, h5⟩ : ∃ z, w4.alloc (.cells #[.slice (some ⟨gP, 0, none⟩) m m, .slice (some ⟨gD, 0, none⟩) n n] 113) = z := ⟨_, rfl⟩
  obtain ⟨gW, hgW⟩ : ∃ z, w4.heap.size = z := ⟨_, rfl⟩
  rw [hgW] at HX4
  simp only [h5, hgW] at HX4 HB5 ⊢
  clear h5 hgW HB4
  refine Calls.mono (unhide HCH _) ?_
  rintro r w6 ⟨v, rfl, hv, hb6⟩
  obtain ⟨av, cv, rfl, -, -⟩ := own_sl hv
  have HB6 := hide ((unhide HB5).trans (hb6.mono (unhide HB5).size))
  have HX6 := hide ((unhide HX4).call hb6)
  have HV := hide (own_base hv (Nat.le_trans (unhide HB5).size (Nat.le_refl _)))
  clear hv hb6 HX4 HB5
  go_wp2_with fail
  go_loopw [8, 28] (fun t8 t28 wr => ∃ (j : Nat) (X : List (List UInt8)), j ≤ n ∧ t8 = .string (txB X) ∧ t28 = .int .i64 (j : Int) ∧ Hid (Cps X ∧ X ++ At.app (wAts (P.drop j) (D.drop j)) (cs.drop j) = T) ∧ w6 = wr) (fun _ t28 _ => ((n : Int) - intOf t28).toNat)
  case atStart => exact ⟨0, [], by omega, rfl, by simp, hide ⟨Cps.nil, by rw [List.drop_zero, List.drop_zero, List.drop_zero, List.nil_append, (unhide HWL).eq]; exact unhide HT⟩, rfl⟩
  case round =>
    obtain ⟨j, X, hj, rfl, rfl, HE, rfl⟩ := hrel
    obtain ⟨q, hq, hcq, hlq⟩ := (unhide HWL).at_ hj
    have c0 : w6.cell? ⟨gW, 0, none⟩ = some (.slice (some ⟨gP, 0, none⟩) m m) := (unhide HX6).bx.cell 0
    have c1 : w6.cell? ⟨gW, 1, none⟩ = some (.slice (some ⟨gD, 0, none⟩) n n) := (unhide HX6).bx.cell 1
    have c2 : w6.cell? ⟨gP, j, none⟩ = some (.string (txB q)) := ((unhide HX6).wd.cp hq).1
    have HQ := hide hq
    have HCQ := hide hcq
    have jM : (j : Int) < (m : Int) := by have := unhide HM; omega
    have j0 : (0 : Int) ≤ (j : Int) := by omega
    have hxl : (txB X).size ≤ 4398046511104 := by have h1 := apL_le (unhide HE).2 (unhide HTT); have h2 := txB_le (unhide HE).1; omega
    have hql : (txB q).size ≤ 4398046511104 := by have h2 := txB_le hcq; have := unhide HTN; have := unhide HTL; omega
    have hsz : (txB X).size + (txB q).size ≤ 9223372036854775807 := by omega
    have hap : txB X ++ txB q = txB (X ++ q) := txB_app X q
    have HXS : Hid ((txB (X ++ q)).size ≤ 8796093022208) := hide (by rw [← hap, ByteArray.size_append]; omega)
    clear hq hcq hlq
    by_cases hlt : j < n
    · have jN : (j : Int) < (n : Int) := by omega
      obtain ⟨b, hb⟩ := (unhide HWL).dr hlt
      obtain ⟨c_, hc_⟩ : ∃ z, cs[j]? = some z := ⟨_, List.getElem?_eq_getElem (by rw [unhide HCN]; exact hlt)⟩
      obtain ⟨gv, cw, hvv, v0, -, -, -, -, -⟩ := own_rd2 (unhide HV) (sS_at (show (cs.map fun c => [c])[j]? = some [c_] by rw [List.getElem?_map, hc_]; rfl))
      obtain ⟨rfl, -⟩ : av = some ⟨gv, 0, none⟩ ∧ True := by
        injection hvv with h1
        exact ⟨h1, trivial⟩
      have c3 : w6.cell? ⟨gD, j, none⟩ = some (.bool b) := ((unhide HX6).wd.cd hb).1
      have HNE := hide (ap_step (unhide HQ) hb hc_ (unhide HE).2)
      have HCC : Hid (Cps [c_]) := hide (fun e he => by rw [List.mem_singleton] at he; rw [he]; exact unhide HCS c_ (List.mem_of_getElem? hc_))
      have hcl : (txB [c_]).size ≤ 4 := by have := txB_le (unhide HCC); simpa using this
      have hsz2 : (txB (X ++ q)).size + (txB [c_]).size ≤ 9223372036854775807 := by have := unhide HXS; omega
      have hap2 : txB (X ++ q) ++ txB [c_] = txB (X ++ q ++ [c_]) := txB_app _ _
      have HC2 : Hid (Cps (X ++ q)) := hide ((unhide HE).1.append (unhide HCQ))
      clear hb hc_ hvv hxl hql hcl
      cases b with
      | true =>
        go_wp2_with fail
        refine ⟨⟨j + 1, X ++ q, by omega, ?_, by simp, hide ⟨unhide HC2, ?_⟩, by first | trivial | rfl⟩, by simp [intOf]; omega⟩
        · first | rfl | rw [hap]
        · have h := unhide HNE
          rw [show kp true c_ = [] from rfl, List.append_nil] at h
          exact h
      | false =>
        go_wp2_with fail
        refine ⟨⟨j + 1, X ++ q ++ [c_], by omega, ?_, by simp, hide ⟨(unhide HC2).append (unhide HCC), unhide HNE⟩, by first | trivial | rfl⟩, by simp [intOf]; omega⟩
        first | rfl | rw [List.append_assoc] | rw [hap, hap2]
    · obtain rfl : n = j := by omega
      have HEN := hide (ap_end (unhide HWL) (unhide HQ) (unhide HCN) (unhide HE).2)
      clear hxl hql
      go_wp2_with fail
      go_ret2
      refine ⟨?_, unhide HB6⟩
      rw [← unhide HEN]
      first | rfl | rw [hap]
end Go.Proofs.YtonabfpgdgnpnaaDoor

namespace Go.Proofs.YtonabfpgdgnpnaaDoor
set_option linter.unusedVariables false
set_option linter.unusedSimpArgs false
open Go.ChangeShapes Go.WideShapes Go.ChangeAt Go.RowKit Go.Joins Go.Deep

def RMergeR (b a c : ByteArray) (w : World) (r : Ending) (w' : World) : Prop := (firstE [b, a, c] ≠ 0 ∧ r = .returned (.tuple #[.string ⟨#[]⟩, .int .i64 (firstE [b, a, c])]) ∨ firstE [b, a, c] = 0 ∧ ∃ x y z, Tx b x ∧ Tx a y ∧ Tx c z ∧ x.length ≤ 1024 ∧ y.length ≤ 1024 ∧ z.length ≤ 1024 ∧ r = .returned (.tuple #[.string (txB (At.app (At.can (At.two (At.can (leadA x y)) (At.can (leadA x z)))) y)), .int .i64 0])) ∧ Below w.heap.size w w'
theorem puts_to9 : ∀ e : List At, At.putsN e ≤ At.toN e
  | [] => Nat.le_refl _
  | s :: e => by have ih := puts_to9 e; cases s <;> simp only [At.putsN, At.toN] <;> omega
theorem len_at9 : ∀ e : List At, e.length = At.fromN e + At.putsN e
  | [] => rfl
  | s :: e => by have ih := len_at9 e; cases s <;> simp only [At.fromN, At.putsN, List.length_cons] <;> omega
theorem two_ed9 {l3 l4 L2 : List Pt} {n m k : Nat} (d3 : IsEd l3 n m) (d4 : IsEd l4 n k) (nf : NfG 0 L2) (at2 : atomsL L2 = At.can (At.two (atomsL l3) (atomsL l4))) (hy : m ≤ 1024) (hz : k ≤ 1024) : IsEd L2 m (At.toN (atomsL L2)) ∧ L2.length ≤ 100000 := by
  have hp := At.sizes (atomsL l3) (atomsL l4) (by rw [d3.2.1, d4.2.1])
  have hf : At.fromN (atomsL L2) = m := by rw [at2, ← At.fromN_sw (At.can_sw _), hp.2.1, d3.2.2.1]
  have hP : At.putsN (atomsL L2) ≤ k := by
    rw [at2, ← At.putsN_sw (At.can_sw _), hp.2.2.2.2]
    have := puts_to9 (atomsL l4)
    rw [d4.2.2.1] at this
    exact this
  have h1 := from_to (atomsL L2)
  have h2 := nf_few nf
  have h3 := len_at9 (atomsL L2)
  exact ⟨⟨nf, hf, rfl, by omega, by omega⟩, by omega⟩
theorem first39 {a b c : ByteArray} (h : firstE [a, b, c] = 0) : firstE [a, b] = 0 ∧ firstE [a, c] = 0 := by
  have h3 := first_ok h
  have e1 := h3 a (by simp)
  have e2 := h3 b (by simp)
  have e3 := h3 c (by simp)
  constructor <;> simp [firstE, e1, e2, e3]
set_option maxRecDepth 100000 in
set_option maxHeartbeats 4000000 in
theorem rmerge_any (a b c : ByteArray) (w : World) (hsa : a.size ≤ 1099511627776) (hsb : b.size ≤ 1099511627776) (hsc : c.size ≤ 1099511627776) : Calls Tryd.prog 23 #[.string a, .string b, .string c] w fun r w' => RMergeR a b c w r w' := by
  have bP : Below w.heap.size w (w.alloc (.cells #[.string a, .string b, .string c] 9)) := (Below.refl _ _).alloc (Nat.le_refl _) _
  have KR := hide (rall_any w.heap.size (.slice (some ⟨w.heap.size, 0, none⟩) 3 3) [a, b, c] (w.alloc (.cells #[.string a, .string b, .string c] 9)) (own_row (RowAt.new w 9 [.string a, .string b, .string c]) (Nat.le_refl _) (by show 3 ≤ maxLen; unfold maxLen; omega)) (by simp) (by simp only [List.mem_cons, List.not_mem_nil, or_false]; rintro s (rfl | rfl | rfl) <;> assumption))
  have B1 := hide bP
  obtain ⟨w1, hw1⟩ : ∃ z, w.alloc (.cells #[.string a, .string b, .string c] 9) = z := ⟨_, rfl⟩
  have HW1 := hide hw1
  rw [hw1] at KR B1
  clear bP hw1
  obtain ⟨e, he⟩ : ∃ z, firstE [a, b, c] = z := ⟨_, rfl⟩
  have HE := hide he
  rw [he] at KR
  clear he
  go_enter Tryd.func23, Tryd.ntmps23
  go_wp2_with fail
  try rw [unhide HW1]
  clear HW1
  refine Calls.mono (unhide KR) ?_
  rintro r w2 ⟨rfl, b2⟩
  have B2 := hide ((unhide B1).trans (b2.mono (unhide B1).size))
  clear b2 KR
  by_cases hf : e = 0
  rotate_left
  · have he0 : (e != 0) = true := by simp [hf]
    have HF := hide hf
    clear hf
    go_wp2_with fail
    go_ret2
    exact ⟨.inl ⟨by rw [unhide HE]; exact unhide HF, by rw [unhide HE]; rfl⟩, unhide B2⟩
  subst hf
  obtain ⟨x, hx, hxl⟩ := chk_ok (first_ok (unhide HE) a (by simp))
  obtain ⟨y, hy, hyl⟩ := chk_ok (first_ok (unhide HE) b (by simp))
  obtain ⟨z, hz, hzl⟩ := chk_ok (first_ok (unhide HE) c (by simp))
  have HF2 := hide (first39 (unhide HE))
  have HX := hide (And.intro hx (And.intro hy (And.intro hz (And.intro hxl (And.intro hyl hzl)))))
  have K2 := hide (rdiff_any a b w2 (by omega) (by omega))
  clear hx hy hz hxl hyl hzl
  go_wp2_with fail
  refine Calls.mono (unhide K2) ?_
  rintro r w3 ⟨h3, b3⟩
  have B3 := hide ((unhide B2).trans (b3.mono (unhide B2).size))
  have K3 := hide (rdiff_any a c w3 (by omega) (by omega))
  clear b3 K2
  rcases h3 with ⟨h9, _⟩ | ⟨_, x3, y3, v3, l3, hx3, hy3, _, _, rfl, o3, n3, e3⟩
  · exact absurd (unhide HF2).1 h9
  obtain rfl := (unhide HX).1.inj hx3
  obtain rfl := (unhide HX).2.1.inj hy3
  obtain ⟨a3, c3, rfl, _, _⟩ := own_sl3 o3
  obtain ⟨d3, k3⟩ := lead_ed n3 e3 (unhide HX).2.2.2.1 (unhide HX).2.2.2.2.1
  have E3 := own_ed o3 d3 (by omega)
  obtain ⟨q3, hq3⟩ : ∃ z, l3.length = z := ⟨_, rfl⟩
  have H3 := hide (And.intro E3 (And.intro n3 (And.intro e3 (And.intro d3 (And.intro k3 hq3)))))
  rw [hq3]
  clear hx3 hy3 o3 n3 e3 d3 k3 E3 hq3
  go_wp2_with fail
  refine Calls.mono (unhide K3) ?_
  rintro r w4 ⟨h4, b4⟩
  have B4 := hide ((unhide B3).trans (b4.mono (unhide B3).size))
  rcases h4 with ⟨h9, _⟩ | ⟨_, x4, y4, v4, l4, hx4, hy4, _, _, rfl, o4, n4, e4⟩
  · exact absurd (unhide HF2).2 h9
  obtain rfl := (unhide HX).1.inj hx4
  obtain rfl := (unhide HX).2.2.1.inj hy4
  obtain ⟨a4, c4, rfl, _, _⟩ := own_sl3 o4
  obtain ⟨d4, k4⟩ := lead_ed n4 e4 (unhide HX).2.2.2.1 (unhide HX).2.2.2.2.2
  have E4 := own_ed o4 d4 (by omega)
  have E3 := hide ((unhide H3).1.call b4)
  obtain ⟨q4, hq4⟩ : ∃ z, l4.length = z := ⟨_, rfl⟩
  have H4 := hide (And.intro E4 (And.intro n4 (And.intro e4 (And.intro d4 (And.intro k4 hq4)))))
  rw [hq4]
  clear hx4 hy4 o4 n4 e4 d4 k4 E4 hq4 b4 K3
  have KT := hide (rtransform_ed a3 a4 l3 l4 c3 c4 x.length y.length z.length w4 (unhide E3) (unhide H4).1 (unhide H3).2.2.2.1 (unhide H4).2.2.2.1 (by have := (unhide HX).2.2.2.1; omega) (by have := (unhide HX).2.2.2.2.1; omega) (by have := (unhide HX).2.2.2.2.2; omega) (by have := (unhide H3).2.2.2.2.1; omega) (by have := (unhide H4).2.2.2.2.1; omega))
  rw [(unhide H3).2.2.2.2.2, (unhide H4).2.2.2.2.2] at KT
  go_wp2_with fail
  refine Calls.mono (unhide KT) ?_
  rintro r w5 ⟨v1, v2, L1, L2, rfl, o1, o2, f1, f2, at1, at2, b5⟩
  have B5 := hide ((unhide B4).trans (b5.mono (unhide B4).size))
  obtain ⟨a5, c5, rfl, _, _⟩ := own_sl3 o2
  obtain ⟨d5, k5⟩ := two_ed9 (unhide H3).2.2.2.1 (unhide H4).2.2.2.1 f2 at2 (unhide HX).2.2.2.2.1 (unhide HX).2.2.2.2.2
  have KA := hide (rapply_ok (own_ed o2 d5 (by omega)) (by omega) (unhide HX).2.1 rfl d5 (by omega))
  rw [at2, (unhide H3).2.2.1, (unhide H4).2.2.1] at KA
  obtain ⟨q5, hq5⟩ : ∃ z, L2.length = z := ⟨_, rfl⟩
  rw [hq5] at KA ⊢
  clear o1 o2 f1 f2 at1 at2 b5 d5 k5 hq5 KT
  go_wp2_with fail
  refine Calls.mono (unhide KA) ?_
  rintro r w6 ⟨rfl, b6⟩
  have B6 := hide ((unhide B5).trans (b6.mono (unhide B5).size))
  clear b6 KA
  go_wp2_with fail
  go_ret2
  exact ⟨.inr ⟨unhide HE, x, y, z, (unhide HX).1, (unhide HX).2.1, (unhide HX).2.2.1, (unhide HX).2.2.2.1, (unhide HX).2.2.2.2.1, (unhide HX).2.2.2.2.2, rfl⟩, unhide B6⟩
end Go.Proofs.YtonabfpgdgnpnaaDoor

namespace Go.Proofs.YtonabfpgdgnpnaaDoor
set_option linter.unusedVariables false
set_option linter.unusedSimpArgs false
open Go.ChangeShapes Go.WideShapes Go.ChangeAt Go.RowKit Go.Joins Go.Deep

def RStR (l : List Pt) (w : World) (r : Ending) (w' : World) : Prop := ∃ v, r = .returned v ∧ w'.ownsRow w.heap.size 87 2 v (sgL l).1.length (cut2C (sgL l).1) ∧ Below w.heap.size w w'
theorem RStR.shape {l : List Pt} {w w' : World} {r : Ending} (h : RStR l w r w') : ∃ a n c, r = .returned (.slice a n c) ∧ (sgL l).1.length = n ∧ w'.ownsRow w.heap.size 87 2 (.slice a n c) n (cut2C (sgL l).1) ∧ Below w.heap.size w w' := by
  obtain ⟨v, rfl, ho, hb⟩ := h
  obtain ⟨a, c, rfl, _, _⟩ := own_sl3 ho
  exact ⟨a, _, c, rfl, rfl, ho, hb⟩
theorem rplaces_str (a : Option Addr) (l : List Pt) (c q f t : Nat) (w : World) (hp : PtsAt w a l) (he : IsEd l f t) (hc : l.length ≤ 4000) (hq : l.length = q) : Calls Tryd.prog 47 #[.slice a q c] w fun r w' => RStR l w r w' := by
  subst hq
  exact rplaces_any a l c f t w hp he hc
theorem cut7_rd {w : World} {B n c : Nat} {a : Option Addr} {L : List Cut2} (h : w.ownsRow B 87 2 (.slice a n c) n (cut2C L)) {i : Nat} {x : Cut2} (hx : L[i]? = some x) : ∃ g, a = some ⟨g, 0, none⟩ ∧ w.cell? ⟨g, i * 2, none⟩ = some (.int .i64 (x.1 : Int)) ∧ w.cell? ⟨g, i * 2 + 1, none⟩ = some (.int .i64 (x.2 : Int)) := by
  have hn : 0 < n := by
    have h1 := h.1
    rw [cut2C_len] at h1
    have := (List.getElem?_eq_some_iff.1 hx).1
    omega
  obtain ⟨g, rfl, _, _⟩ := own_g2 h hn
  exact ⟨g, rfl, (own_c2 h (cut2_at hx).1).1, (own_c2 h (cut2_at hx).2).1⟩
set_option maxRecDepth 100000 in
set_option maxHeartbeats 4000000 in
theorem rmeet_any (a b c : ByteArray) (w : World) (hsa : a.size ≤ 1099511627776) (hsb : b.size ≤ 1099511627776) (hsc : c.size ≤ 1099511627776) : Calls Tryd.prog 25 #[.string a, .string b, .string c] w fun r w' => MeetR a b c w r w' := by
  have bP : Below w.heap.size w (w.alloc (.cells #[.string a, .string b, .string c] 9)) := (Below.refl _ _).alloc (Nat.le_refl _) _
  have KR := hide (rall_any w.heap.size (.slice (some ⟨w.heap.size, 0, none⟩) 3 3) [a, b, c] (w.alloc (.cells #[.string a, .string b, .string c] 9)) (own_row (RowAt.new w 9 [.string a, .string b, .string c]) (Nat.le_refl _) (by show 3 ≤ maxLen; unfold maxLen; omega)) (by simp) (by simp only [List.mem_cons, List.not_mem_nil, or_false]; rintro s (rfl | rfl | rfl) <;> assumption))
  have B1 := hide bP
  obtain ⟨w1, hw1⟩ : ∃ z, w.alloc (.cells #[.string a, .string b, .string c] 9) = z := ⟨_, rfl⟩
  have HW1 := hide hw1
  rw [hw1] at KR B1
  clear bP hw1
  obtain ⟨e, he⟩ : ∃ z, firstE [a, b, c] = z := ⟨_, rfl⟩
  have HE := hide he
  rw [he] at KR
  clear he
  go_enter Tryd.func25, Tryd.ntmps25
  go_wp2_with fail
  try rw [unhide HW1]
  clear HW1
  refine Calls.mono (unhide KR) ?_
  rintro r w2 ⟨rfl, b2⟩
  have B2 := hide ((unhide B1).trans (b2.mono (unhide B1).size))
  clear b2 KR
  by_cases hf : e = 0
  rotate_left
  · have he0 : (e != 0) = true := by simp [hf]
    have HF := hide hf
    clear hf
    go_wp2_with fail
    go_ret2
    exact ⟨.inl ⟨by rw [unhide HE]; exact unhide HF, by rw [unhide HE]; rfl⟩, unhide B2⟩
  subst hf
  obtain ⟨x, hx, hxl⟩ := chk_ok (first_ok (unhide HE) a (by simp))
  obtain ⟨y, hy, hyl⟩ := chk_ok (first_ok (unhide HE) b (by simp))
  obtain ⟨z, hz, hzl⟩ := chk_ok (first_ok (unhide HE) c (by simp))
  have HF2 := hide (first39 (unhide HE))
  have HX := hide (And.intro hx (And.intro hy (And.intro hz (And.intro hxl (And.intro hyl hzl)))))
  have K2 := hide (rdiff_any a b w2 (by omega) (by omega))
  clear hx hy hz hxl hyl hzl
  go_wp2_with fail
  refine Calls.mono (unhide K2) ?_
  rintro r w3 ⟨h3, b3⟩
  have B3 := hide ((unhide B2).trans (b3.mono (unhide B2).size))
  have K3 := hide (rdiff_any a c w3 (by omega) (by omega))
  clear b3 K2
  rcases h3 with ⟨h9, _⟩ | ⟨_, x3, y3, v3, l3, hx3, hy3, _, _, rfl, o3, n3, e3⟩
  · exact absurd (unhide HF2).1 h9
  obtain rfl := (unhide HX).1.inj hx3
  obtain rfl := (unhide HX).2.1.inj hy3
  obtain ⟨a3, c3, rfl, _, _⟩ := own_sl3 o3
  obtain ⟨d3, k3⟩ := lead_ed n3 e3 (unhide HX).2.2.2.1 (unhide HX).2.2.2.2.1
  have E3 := own_ed o3 d3 (by omega)
  obtain ⟨q3, hq3⟩ : ∃ z, l3.length = z := ⟨_, rfl⟩
  have H3 := hide (And.intro E3 (And.intro n3 (And.intro e3 (And.intro d3 (And.intro k3 hq3)))))
  rw [hq3]
  clear hx3 hy3 o3 n3 e3 d3 k3 E3 hq3
  go_wp2_with fail
  refine Calls.mono (unhide K3) ?_
  rintro r w4 ⟨h4, b4⟩
  have B4 := hide ((unhide B3).trans (b4.mono (unhide B3).size))
  rcases h4 with ⟨h9, _⟩ | ⟨_, x4, y4, v4, l4, hx4, hy4, _, _, rfl, o4, n4, e4⟩
  · exact absurd (unhide HF2).2 h9
  obtain rfl := (unhide HX).1.inj hx4
  obtain rfl := (unhide HX).2.2.1.inj hy4
  obtain ⟨a4, c4, rfl, _, _⟩ := own_sl3 o4
  obtain ⟨d4, k4⟩ := lead_ed n4 e4 (unhide HX).2.2.2.1 (unhide HX).2.2.2.2.2
  have E4 := own_ed o4 d4 (by omega)
  have E3 := hide ((unhide H3).1.call b4)
  obtain ⟨q4, hq4⟩ : ∃ z, l4.length = z := ⟨_, rfl⟩
  have H4 := hide (And.intro E4 (And.intro n4 (And.intro e4 (And.intro d4 (And.intro k4 hq4)))))
  rw [hq4]
  clear hx4 hy4 o4 n4 e4 d4 k4 E4 hq4 b4 K3
  have KX := hide (rplaces_str a3 l3 c3 q3 x.length y.length w4 (unhide E3).pts (unhide H3).2.2.2.1 (by have := (unhide H3).2.2.2.2.1; omega) (unhide H3).2.2.2.2.2)
  have hf6 := lead_few (unhide H3).2.1 (unhide H3).2.2.1 (unhide HX).2.2.2.1 (unhide HX).2.2.2.2.1
  have hf4 := lead_few (unhide H4).2.1 (unhide H4).2.2.1 (unhide HX).2.2.2.1 (unhide HX).2.2.2.2.2
  go_wp2_with fail
  refine Calls.mono (unhide KX) ?_
  intro r w6 h6
  obtain ⟨a6, n6, c6, rfl, hn6, o6, b6⟩ := RStR.shape h6
  rw [hn6] at hf6
  obtain ⟨n4, hn4⟩ : ∃ u, (sgL l4).1.length = u := ⟨_, rfl⟩
  rw [hn4] at hf4
  have HN4 := hide hn4
  have HX6 := hide (And.intro hn6 o6)
  have B6 := hide ((unhide B4).trans (b6.mono (unhide B4).size))
  have KY := hide (fun W (hW : Below w6.heap.size w6 W) => rplaces_str a4 l4 c4 q4 x.length z.length W (((unhide H4).1.call b6).call hW).pts (unhide H4).2.2.2.1 (by have := (unhide H4).2.2.2.2.1; omega) (unhide H4).2.2.2.2.2)
  clear b6 o6 hn6 hn4 KX E3
  go_wp2_with fail
  go_loopw [13, 41] (fun nv iv wr => ∃ (k r : Nat), k ≤ n6 ∧ iv = .int .i64 (k : Int) ∧ nv = .int .i64 (r : Int) ∧ r ≤ k * 2048 ∧ Hid (r = meetN ((sgL l3).1.take k) (sgL l4).1) ∧ Hid (Below w6.heap.size w6 wr)) (fun _ iv _ => ((n6 : Int) - intOf iv).toNat)
  case atStart => exact ⟨0, 0, by omega, by simp, by simp, by omega, hide rfl, hide (Below.refl _ _)⟩
  case round =>
    obtain ⟨k, r, hk, rfl, rfl, hr, HR, HB⟩ := hrel
    by_cases c1 : (k : Int) < (n6 : Int)
    · obtain ⟨wo, hwo⟩ : ∃ z, z = wr := ⟨_, rfl⟩
      subst hwo
      obtain ⟨x1, hx1⟩ : ∃ z, (sgL l3).1[k]? = some z := ⟨_, List.getElem?_eq_getElem (by rw [(unhide HX6).1]; omega)⟩
      obtain ⟨f1, t1⟩ := x1
      obtain ⟨g6, rfl, p0, p1⟩ := cut7_rd (own_call (unhide HX6).2 (unhide HB)) hx1
      have HX1 := hide hx1
      dsimp only at p0 p1
      have hal : Below wo.heap.size wo (wo.alloc (.cells #[.int .i64 (f1 : Int), .int .i64 (t1 : Int)] 87)) := (Below.refl _ _).alloc (Nat.le_refl _) _
      have HRX := hide (RowAt.new wo 87 [.int .i64 (f1 : Int), .int .i64 (t1 : Int)])
      have HBX := hide ((unhide HB).trans (hal.mono (unhide HB).size))
      have KY2 := hide (unhide KY _ (unhide HBX))
      have k0 : (0 : Int) ≤ (k : Int) := by omega
      clear hx1 hal
      go_wp2_with fail
      refine Calls.mono (unhide KY2) ?_
      intro r9 w7 h7
      obtain ⟨a7, n7, c7, rfl, hn7, o7, b7⟩ := RStR.shape h7
      obtain rfl : n4 = n7 := (unhide HN4).symm.trans hn7
      have HX7 := hide o7
      have HRX := hide ((unhide HRX).below b7 (unhide HRX).lt)
      have HBX := hide ((unhide HBX).trans (b7.mono (unhide HBX).size))
      have HBX7 := hide (unhide HBX)
      clear hn7 o7 b7 KY2 p0 p1
      go_wp2_with fail
      go_loopw [13, 48] (fun nv jv wr => ∃ (j r2 : Nat), j ≤ n4 ∧ jv = .int .i64 (j : Int) ∧ nv = .int .i64 (r2 : Int) ∧ r2 ≤ k * 2048 + j ∧ Hid (r2 = r + ((sgL l4).1.take j).countP (mtB (f1, t1))) ∧ Hid (RowAt wr wo.heap.size 87 [.int .i64 (f1 : Int), .int .i64 (t1 : Int)]) ∧ Hid (Below w6.heap.size w6 wr) ∧ Hid (Below w7.heap.size w7 wr)) (fun _ jv _ => ((n4 : Int) - intOf jv).toNat)
      case atStart => exact ⟨0, r, by omega, by simp, rfl, by omega, hide (by simp), HRX, HBX, hide (Below.refl _ _)⟩
      case round =>
        clear HRX HBX
        obtain ⟨j, r2, hj, rfl, rfl, hr2, HR2, HRX, HBX, HB7⟩ := hrel
        by_cases c2 : (j : Int) < (n4 : Int)
        · obtain ⟨y1, hy1⟩ : ∃ z, (sgL l4).1[j]? = some z := ⟨_, List.getElem?_eq_getElem (by rw [unhide HN4]; omega)⟩
          obtain ⟨f2, t2⟩ := y1
          obtain ⟨g7, rfl, q0, q1⟩ := cut7_rd (own_call (unhide HX7) (unhide HB7)) hy1
          dsimp only at q0 q1
          have hal : Below wr.heap.size wr (wr.alloc (.cells #[.int .i64 (f2 : Int), .int .i64 (t2 : Int)] 87)) := (Below.refl _ _).alloc (Nat.le_refl _) _
          have HRX2 := hide ((unhide HRX).below hal (unhide HRX).lt)
          have HBX2 := hide ((unhide HBX).trans (hal.mono (unhide HBX).size))
          have HB72 := hide ((unhide HB7).trans (hal.mono (unhide HB7).size))
          have xr0 := (unhide HRX2).cell 0
          have xr1 := (unhide HRX2).cell 1
          have HCT := hide (count_take (x := (f1, t1)) hy1)
          have j0 : (0 : Int) ≤ (j : Int) := by omega
          have hr3 : r2 ≤ 5000000 := by omega
          clear hy1 hal HRX HBX HB7
          by_cases h1 : f1 ≤ t2
          · have h1I : (f1 : Int) ≤ (t2 : Int) := by omega
            by_cases h2 : f2 ≤ t1
            · have h2I : (f2 : Int) ≤ (t1 : Int) := by omega
              have HR4 : Hid (r2 + 1 = r + ((sgL l4).1.take (j + 1)).countP (mtB (f1, t1))) := hide (by rw [unhide HCT, if_pos (by unfold mtB; simp [h1, h2]), ← Nat.add_assoc, ← unhide HR2])
              go_wp2_with fail
              exact ⟨⟨j + 1, r2 + 1, by omega, by simp, by simp, by omega, HR4, HRX2, HBX2, HB72⟩, by simp [intOf]; omega⟩
            · have h2I : ¬ (f2 : Int) ≤ (t1 : Int) := by omega
              have HR4 : Hid (r2 = r + ((sgL l4).1.take (j + 1)).countP (mtB (f1, t1))) := hide (by rw [unhide HCT, if_neg (by unfold mtB; simp; omega), Nat.add_zero, ← unhide HR2])
              go_wp2_with fail
              exact ⟨⟨j + 1, r2, by omega, by simp, rfl, by omega, HR4, HRX2, HBX2, HB72⟩, by simp [intOf]; omega⟩
          · have h1I : ¬ (f1 : Int) ≤ (t2 : Int) := by omega
            have HR4 : Hid (r2 = r + ((sgL l4).1.take (j + 1)).countP (mtB (f1, t1))) := hide (by rw [unhide HCT, if_neg (by unfold mtB; simp; omega), Nat.add_zero, ← unhide HR2])
            go_wp2_with fail
            exact ⟨⟨j + 1, r2, by omega, by simp, rfl, by omega, HR4, HRX2, HBX2, HB72⟩, by simp [intOf]; omega⟩
        · obtain rfl : n4 = j := by omega
          have HR4 : Hid (r2 = meetN ((sgL l3).1.take (k + 1)) (sgL l4).1) := hide (by
            rw [meetN_take (unhide HX1), ← unhide HR]
            have h9 := unhide HR2
            rw [List.take_of_length_le (by rw [unhide HN4]; exact Nat.le_refl _)] at h9
            exact h9)
          have hr4 : r2 ≤ (k + 1) * 2048 := by omega
          go_wp2_with fail
          exact ⟨⟨k + 1, r2, by omega, by simp, rfl, hr4, HR4, HBX⟩, by simp [intOf]; omega⟩
    · obtain rfl : n6 = k := by omega
      have HF : Hid (r = meetN (sgL l3).1 (sgL l4).1) := hide (by have h9 := unhide HR; rw [List.take_of_length_le (by rw [(unhide HX6).1]; exact Nat.le_refl _)] at h9; exact h9)
      have HEE : Hid (MeetR a b c w (.returned (.tuple #[.int .i64 (r : Int), .int .i64 0])) wr) := hide ⟨.inr ⟨unhide HE, x, y, z, l3, l4, (unhide HX).1, (unhide HX).2.1, (unhide HX).2.2.1, (unhide HX).2.2.2.1, (unhide HX).2.2.2.2.1, (unhide HX).2.2.2.2.2, (unhide H3).2.1, (unhide H3).2.2.1, (unhide H4).2.1, (unhide H4).2.2.1, by rw [← unhide HF]⟩, (unhide B6).trans ((unhide HB).mono (unhide B6).size)⟩
      go_wp2_with fail
      go_ret2
      exact unhide HEE
end Go.Proofs.YtonabfpgdgnpnaaDoor

namespace Go.Proofs.YtonabfpgdgnpnaaDoor
set_option linter.unusedVariables false
set_option linter.unusedSimpArgs false
open Go.ChangeShapes Go.WideShapes Go.ChangeAt Go.RowKit Go.Joins Go.Deep

set_option maxRecDepth 100000 in
set_option maxHeartbeats 4000000 in
theorem merges_law (a b c : ByteArray) (w : World) (hT : UT w) (h0a : a.size ≤ 140737488351232) (h0b : b.size ≤ 140737488351232) (h0c : c.size ≤ 140737488351232) : Calls Tryd.prog 7 #[.string a, .string b, .string c] w fun r w' => r = .returned (.bool true) ∧ Below w.heap.size w w' := by
  have HU : Hid (∀ W, Below w.heap.size w W → UT W) := hide (fun W h => hT.call h)
  have bP : Below w.heap.size w (w.alloc (.cells #[.string a, .string b, .string c] 9)) := (Below.refl _ _).alloc (Nat.le_refl _) _
  have KS := hide (long_any w.heap.size (.slice (some ⟨w.heap.size, 0, none⟩) 3 3) [a, b, c] (w.alloc (.cells #[.string a, .string b, .string c] 9)) (own_row (RowAt.new w 9 [.string a, .string b, .string c]) (Nat.le_refl _) (by show 3 ≤ maxLen; unfold maxLen; omega)) (by simp))
  have B1 := hide bP
  obtain ⟨w1, hw1⟩ : ∃ z, w.alloc (.cells #[.string a, .string b, .string c] 9) = z := ⟨_, rfl⟩
  have HW1 := hide hw1
  rw [hw1] at KS B1
  clear hT bP hw1
  go_enter Tryd.func7, Tryd.ntmps7
  go_wp2_with fail
  try rw [unhide HW1]
  clear HW1
  refine Calls.mono (unhide KS) ?_
  rintro r w2 ⟨rfl, rfl⟩
  cases hlb : longB [a, b, c] with
  | true =>
    have KA := hide (awake_any w1 (unhide HU _ (unhide B1)))
    go_wp2_with fail
    refine Calls.mono (unhide KA) ?_
    rintro r w99 ⟨rfl, b99⟩
    have B99 := hide ((unhide B1).trans (b99.mono (unhide B1).size))
    clear b99
    go_wp2_with fail
    go_ret
    exact ⟨by first | rfl | (simp; done), unhide B99⟩
  | false =>
    have hszs : a.size ≤ 200 ∧ b.size ≤ 200 ∧ c.size ≤ 200 := by simpa [longB] using hlb
    clear hlb
    have K1 := hide (merge_any a b c w1 (unhide HU _ (unhide B1)) (by omega) (by omega) (by omega))
    go_wp2_with fail
    refine Calls.mono (unhide K1) ?_
    rintro r w3 ⟨h3, b3⟩
    have B3 := hide ((unhide B1).trans (b3.mono (unhide B1).size))
    have K2 := hide (rmerge_any a b c w3 (by omega) (by omega) (by omega))
    clear b3 K1
    rcases h3 with ⟨hf, rfl⟩ | ⟨hf, x, y, z, S, hx, hy, hz, hxl, hyl, hzl, rfl, hS⟩
    · have HF := hide hf
      obtain ⟨e, he⟩ : ∃ z, firstE [a, b, c] = z := ⟨_, rfl⟩
      have HE := hide he
      rw [he]
      clear hf he
      go_wp2_with fail
      refine Calls.mono (unhide K2) ?_
      rintro r w4 ⟨h4, b4⟩
      have B4 := hide ((unhide B3).trans (b4.mono (unhide B3).size))
      have K3 := hide (meet_any a b c w4 (unhide HU _ (unhide B4)) (by omega) (by omega) (by omega))
      clear b4 K2
      rcases h4 with ⟨_, rfl⟩ | ⟨h9, _⟩
      rotate_left
      · exact absurd h9 (unhide HF)
      rw [unhide HE]
      go_wp2_with fail
      refine Calls.mono (unhide K3) ?_
      rintro r w5 ⟨h5, b5⟩
      have B5 := hide ((unhide B4).trans (b5.mono (unhide B4).size))
      have K4 := hide (rmeet_any a b c w5 (by omega) (by omega) (by omega))
      clear b5 K3
      rcases h5 with ⟨_, rfl⟩ | ⟨h9, _⟩
      rotate_left
      · exact absurd h9 (unhide HF)
      rw [unhide HE]
      go_wp2_with fail
      refine Calls.mono (unhide K4) ?_
      rintro r w6 ⟨h6, b6⟩
      have B6 := hide ((unhide B5).trans (b6.mono (unhide B5).size))
      clear b6 K4
      rcases h6 with ⟨_, rfl⟩ | ⟨h9, _⟩
      rotate_left
      · exact absurd h9 (unhide HF)
      rw [unhide HE]
      have KA := hide (awake_any w6 (unhide HU _ (unhide B6)))
      go_wp2_with fail
      refine Calls.mono (unhide KA) ?_
      rintro r w99 ⟨rfl, b99⟩
      have B99 := hide ((unhide B6).trans (b99.mono (unhide B6).size))
      clear b99
      go_wp2_with fail
      go_ret
      exact ⟨by first | rfl | (simp; done), unhide B99⟩
    have HX := hide (And.intro hx (And.intro hy (And.intro hz hf)))
    have HS := hide hS
    clear hf hx hy hz hxl hyl hzl hS
    go_wp2_with fail
    refine Calls.mono (unhide K2) ?_
    rintro r w4 ⟨h4, b4⟩
    have B4 := hide ((unhide B3).trans (b4.mono (unhide B3).size))
    have K3 := hide (meet_any a b c w4 (unhide HU _ (unhide B4)) (by omega) (by omega) (by omega))
    clear b4 K2
    rcases h4 with ⟨h9, _⟩ | ⟨_, x2, y2, z2, hx2, hy2, hz2, _, _, _, rfl⟩
    · exact absurd (unhide HX).2.2.2 h9
    obtain rfl := (unhide HX).1.inj hx2
    obtain rfl := (unhide HX).2.1.inj hy2
    obtain rfl := (unhide HX).2.2.1.inj hz2
    rw [txB_of (unhide HS)]
    clear hx2 hy2 hz2
    go_wp2_with fail
    refine Calls.mono (unhide K3) ?_
    rintro r w5 ⟨h5, b5⟩
    have B5 := hide ((unhide B4).trans (b5.mono (unhide B4).size))
    have K4 := hide (rmeet_any a b c w5 (by omega) (by omega) (by omega))
    clear b5 K3
    rcases h5 with ⟨h9, _⟩ | ⟨_, x2, y2, z2, l, m, hx2, hy2, hz2, _, _, _, nl, el, nm, em, rfl⟩
    · exact absurd (unhide HX).2.2.2 h9
    obtain rfl := (unhide HX).1.inj hx2
    obtain rfl := (unhide HX).2.1.inj hy2
    obtain rfl := (unhide HX).2.2.1.inj hz2
    have HLM := hide (And.intro nl (And.intro el (And.intro nm em)))
    obtain ⟨q, hq⟩ : ∃ u, meetN (sgL l).1 (sgL m).1 = u := ⟨_, rfl⟩
    have HQ := hide hq
    rw [hq]
    clear hx2 hy2 hz2 nl el nm em hq
    go_wp2_with fail
    refine Calls.mono (unhide K4) ?_
    rintro r w6 ⟨h6, b6⟩
    have B6 := hide ((unhide B5).trans (b6.mono (unhide B5).size))
    clear b6 K4
    rcases h6 with ⟨h9, _⟩ | ⟨_, x2, y2, z2, l2, m2, hx2, hy2, hz2, _, _, _, nl2, el2, nm2, em2, rfl⟩
    · exact absurd (unhide HX).2.2.2 h9
    obtain rfl := (unhide HX).1.inj hx2
    obtain rfl := (unhide HX).2.1.inj hy2
    obtain rfl := (unhide HX).2.2.1.inj hz2
    obtain rfl : l = l2 := nf_unique _ _ _ _ (unhide HLM).1 nl2 ((unhide HLM).2.1.trans el2.symm)
    obtain rfl : m = m2 := nf_unique _ _ _ _ (unhide HLM).2.2.1 nm2 ((unhide HLM).2.2.2.trans em2.symm)
    rw [unhide HQ]
    clear hx2 hy2 hz2 nl2 el2 nm2 em2
    have KA := hide (awake_any w6 (unhide HU _ (unhide B6)))
    go_wp2_with fail
    refine Calls.mono (unhide KA) ?_
    rintro r w99 ⟨rfl, b99⟩
    have B99 := hide ((unhide B6).trans (b99.mono (unhide B6).size))
    clear b99
    go_wp2_with fail
    go_ret
    exact ⟨by first | rfl | (simp; done), unhide B99⟩
end Go.Proofs.YtonabfpgdgnpnaaDoor
