/- An edit and its inverse change nothing: the walk. -/
import Derived.Test.YtidblnjohkadhaaDoorIvt
namespace Go.Proofs.YtidblnjohkadhaaDoor
set_option linter.unusedVariables false
set_option linter.unusedSimpArgs false
open Go.ChangeShapes Go.WideShapes Go.ChangeAt Go.RowKit Go.Joins Go.Deep

theorem invert_at {w W : World} {a : Option Addr} {l : List Pt} {c n : Nat} (s : ByteArray) (hU : UT W) (he : Edit W a l c) (hn : l.length = n) (hl : n ≤ 1099511627776) (hs : s.size ≤ 281474976710656) (hb : Below w.heap.size w W) :
    Calls Tryd.prog 41 #[.slice a n c, .string s] W fun r w' => IvtR W w' l s r ∧ Below w.heap.size w w' := by
  subst hn
  refine Calls.mono (invert_any a l c s W hU he.pts (Nat.le_trans he.cap he.max) he.txt2 hs hl) ?_
  rintro r w' ⟨h, h2⟩
  exact ⟨h, hb.trans (h2.mono hb.size)⟩
theorem ed_inv {l c : List Pt} {t : Nat} {cs : List (List UInt8)} (h : IsEd l cs.length t) (h3 : NfG 0 c) (h4 : atomsL c = At.can (At.inv (atomsL l) cs)) : IsEd c t cs.length := by
  have hs := At.inv_sizes (atomsL l) cs h.2.1.symm
  refine ⟨h3, ?_, ?_, h.2.2.2.2, h.2.2.2.1⟩
  · rw [h4, ← At.fromN_sw (At.can_sw _), hs.1, h.2.2.1]
  · rw [h4, ← At.toN_sw (At.can_sw _), hs.2, h.2.1]
set_option maxRecDepth 100000 in
set_option maxHeartbeats 4000000 in
theorem back_law (e : Option Addr) (le : List Pt) (ce : Nat) (s : ByteArray) (w : World) (hT : UT w) (ee : Edit w e le ce) (hs : s.size ≤ 140737488351232) : Calls Tryd.prog 16 #[.slice e le.length ce, .string s] w fun r w' => r = .returned (.bool true) ∧ Below w.heap.size w w' := by
  have HU : Hid (∀ W, Below w.heap.size w W → UT W) := hide (fun W h => hT.call h)
  have HB0 := hide (Below.refl w.heap.size w)
  have Ee : Hid (∀ W, Below w.heap.size w W → Edit W e le ce) := hide (fun W h => ee.call h)
  have Te := hide (⟨ee.txt, ee.cap, ee.max, ee.num⟩ : _ ∧ _ ∧ _ ∧ _)
  have hbL : Below w.heap.size w (w.alloc (.cells #[.slice e le.length ce] 22)) := (Below.refl _ _).alloc (Nat.le_refl _) _
  have HLT := hide (light_any w.heap.size [⟨e, le, ce⟩] (w.alloc (.cells #[.slice e le.length ce] 22)) (RowAt.new w 22 _) (by
    intro e he
    simp only [List.mem_cons, List.not_mem_nil, or_false] at he
    rcases he with rfl
    · exact (ee.call hbL).pts
    ) (by
    intro e he
    simp only [List.mem_cons, List.not_mem_nil, or_false] at he
    rcases he with rfl
    · exact Nat.le_trans ee.cap ee.max
    ) (by simp))
  have HBL := hide hbL
  have HS := hide hs
  obtain ⟨ne, hne⟩ : ∃ z, le.length = z := ⟨_, rfl⟩
  simp only [hne] at HLT HBL ⊢
  have Ne := hide hne
  clear hT hbL ee hne hs
  go_enter Tryd.func16, Tryd.ntmps16
  go_wp2_with fail
  refine Calls.mono (unhide HLT) ?_
  rintro r w1 ⟨⟨lb_, rfl, hlb⟩, hb1⟩
  have HB1 := hide ((unhide HBL).trans (hb1.mono (unhide HBL).size))
  have HLB := hide hlb
  clear hb1 HLT hlb HBL
  cases lb_ with
  | false =>
    go_wp2_with fail
    refine Calls.mono (awake_any _ (unhide HU _ (unhide HB1))) ?_
    rintro r wa ⟨rfl, hba⟩
    have HBa := hide ((unhide HB1).trans (hba.mono (unhide HB1).size))
    clear hba
    go_wp2_with fail
    go_ret
    exact ⟨rfl, unhide HBa⟩
  | true =>
    have qe : Hid (ne ≤ 200) := hide (by have h := (unhide HLB rfl).1 ⟨e, le, ce⟩ (by simp); rw [← unhide Ne]; exact h)
    have HWS := hide (unhide HLB rfl).2
    clear HLB
    by_cases hsz : (4096 : Int) < (s.size : Int)
    · skip
      go_wp2_with fail
      refine Calls.mono (awake_any _ (unhide HU _ (unhide HB1))) ?_
      rintro r wa ⟨rfl, hba⟩
      have HBa := hide ((unhide HB1).trans (hba.mono (unhide HB1).size))
      clear hba
      go_wp2_with fail
      go_ret
      exact ⟨rfl, unhide HBa⟩
    · have hs48 : Hid (s.size ≤ 281474976710656) := hide (by have := unhide HS; omega)
      obtain ⟨sz, hsz2⟩ : ∃ z, s.size = z := ⟨_, rfl⟩
      rw [hsz2] at hsz
      go_wp2_with fail
      refine Calls.mono (apply_at (w := w1) s (unhide HU _ (unhide HB1)) (unhide Ee _ (unhide HB1)) (unhide Ne) (unhide hs48) (Below.refl w1.heap.size w1)) ?_
      rintro r w2 ⟨h_, hb_⟩
      have HB2 := hide ((unhide HB1).trans (hb_.mono (unhide HB1).size))
      clear hb_
      clear hsz2
      rcases h_ with ⟨h_, rfl⟩ | ⟨h_, S1, c0, x0, x1, rfl⟩
      · clear h_
        go_wp2_with fail
        refine Calls.mono (awake_any _ (unhide HU _ (unhide HB2))) ?_
        rintro r wa ⟨rfl, hba⟩
        have HBa := hide ((unhide HB2).trans (hba.mono (unhide HB2).size))
        clear hba
        go_wp2_with fail
        go_ret
        exact ⟨rfl, unhide HBa⟩
      obtain ⟨cs, ta, y0, hEe⟩ := isOf_ed h_
      obtain rfl : c0 = cs := x0.inj y0
      have hlen1 : (At.app (atomsL le) c0).length = ta := by rw [At.app_len _ _ hEe.2.1.symm]; exact hEe.2.2.1
      have HS1 : Hid (S1.size ≤ 281474976710656) := hide (x1.small hlen1 hEe.2.2.2.2)
      have X0 := hide x0
      have X1 := hide x1
      have D := hide hEe
      have HIO := hide h_
      have HL1 := hide hlen1
      clear h_ x0 x1 y0 hEe hlen1
      go_wp2_with fail
      refine Calls.mono (invert_at (w := w2) s (unhide HU _ (unhide HB2)) (unhide Ee _ (unhide HB2)) (unhide Ne) (by have := unhide qe; omega) (unhide hs48) (Below.refl w2.heap.size w2)) ?_
      rintro r w3 ⟨h_, hb_⟩
      have HB3 := hide ((unhide HB2).trans (hb_.mono (unhide HB2).size))
      clear hb_
      rcases h_ with ⟨h_, _⟩ | ⟨_, v, li, cs, x2, rfl, ov, nf_, at_, ln_⟩
      · rw [unhide HIO] at h_; cases h_
      obtain rfl : cs = c0 := x2.inj (unhide X0)
      have hEi := ed_inv (unhide D) nf_ at_
      have hli : li.length ≤ 403 := by have h1 := unhide qe; have h2 := unhide Ne; omega
      have Di := hide hEi
      have Ai := hide at_
      have HLI := hide hli
      obtain ⟨i, ci, hvi, hEi⟩ := ov.edit (ed_txt hEi) (by omega)
      subst hvi
      have Oi3 := hide hEi
      obtain ⟨ni, hni⟩ : ∃ z, li.length = z := ⟨_, rfl⟩
      rw [hni]
      have Ni := hide hni
      clear hEi hni ov
      clear nf_ at_ ln_ hEi hli x2 HIO
      go_wp2_with fail
      refine Calls.mono (apply_at (w := w3) S1 (unhide HU _ (unhide HB3)) (unhide Oi3) (unhide Ni) (unhide HS1) (Below.refl w3.heap.size w3)) ?_
      rintro r w4 ⟨h_, hb_⟩
      have HB4 := hide ((unhide HB3).trans (hb_.mono (unhide HB3).size))
      have Oi4 := hide ((unhide Oi3).call hb_)
      clear Oi3
      clear hb_
      have hio : isOfB li S1 = true := ed_isOf (unhide X1) (by rw [unhide HL1]; exact unhide Di)
      rcases h_ with ⟨h_, _⟩ | ⟨_, S2, c2, x2, x3, rfl⟩
      · rw [hio] at h_; cases h_
      obtain rfl : c2 = At.app (atomsL le) cs := x2.inj (unhide X1)
      have hback : At.app (atomsL li) (At.app (atomsL le) cs) = cs := by rw [unhide Ai, At.app_can, At.inv_app _ _ (unhide D).2.1.symm]
      have hsame : S2 = s := by
        rw [hback] at x3
        exact x3.same (unhide X0)
      subst hsame
      have HIO := hide hio
      have HBK := hide hback
      clear x2 x3 hio hback
      go_wp2_with fail
      refine Calls.mono (invert_at (w := w4) S1 (unhide HU _ (unhide HB4)) (unhide Oi4) (unhide Ni) (by have h1 := unhide HLI; have h2 := unhide Ni; omega) (unhide HS1) (Below.refl w4.heap.size w4)) ?_
      rintro r w5 ⟨h_, hb_⟩
      have HB5 := hide ((unhide HB4).trans (hb_.mono (unhide HB4).size))
      have Oi5 := hide ((unhide Oi4).call hb_)
      clear Oi4
      clear hb_
      rcases h_ with ⟨h_, _⟩ | ⟨_, v, lj, c3, x2, rfl, ov, nf_, at_, ln_⟩
      · rw [unhide HIO] at h_; cases h_
      obtain rfl : c3 = At.app (atomsL le) cs := x2.inj (unhide X1)
      have hEj := ed_inv (l := li) (by rw [unhide HL1]; exact unhide Di) nf_ at_
      have hlj : lj.length ≤ 3000 := by have h1 := unhide HLI; omega
      have Dj := hide hEj
      have Aj := hide at_
      obtain ⟨j, cj, hvj, hEj⟩ := ov.edit (ed_txt hEj) (by omega)
      subst hvj
      have Oj5 := hide hEj
      obtain ⟨nj, hnj⟩ : ∃ z, lj.length = z := ⟨_, rfl⟩
      rw [hnj]
      have Nj := hide hnj
      clear hEj hnj ov
      clear nf_ at_ ln_ hEj hlj x2 HIO
      go_wp2_with fail
      refine Calls.mono (apply_at (w := w5) S2 (unhide HU _ (unhide HB5)) (unhide Oj5) (unhide Nj) (unhide hs48) (Below.refl w5.heap.size w5)) ?_
      rintro r w6 ⟨h_, hb_⟩
      have HB6 := hide ((unhide HB5).trans (hb_.mono (unhide HB5).size))
      have Oi6 := hide ((unhide Oi5).call hb_)
      clear Oi5
      have Oj6 := hide ((unhide Oj5).call hb_)
      clear Oj5
      clear hb_
      have hio : isOfB lj S2 = true := ed_isOf (unhide X0) (unhide Dj)
      rcases h_ with ⟨h_, _⟩ | ⟨_, S3, c2, x2, x3, rfl⟩
      · rw [hio] at h_; cases h_
      obtain rfl : c2 = cs := x2.inj (unhide X0)
      have hsame : S3 = S1 := by
        have hx := At.inv_app (atomsL li) (At.app (atomsL le) c2) (by rw [unhide HL1]; exact (unhide Di).2.1.symm)
        rw [unhide HBK] at hx
        rw [unhide Aj, At.app_can, hx] at x3
        exact x3.same (unhide X1)
      subst hsame
      clear x2 x3 hio
      go_wp2_with fail
      refine Calls.mono (awake_any _ (unhide HU _ (unhide HB6))) ?_
      rintro r wa ⟨rfl, hba⟩
      have HBa := hide ((unhide HB6).trans (hba.mono (unhide HB6).size))
      clear hba
      go_wp2_with fail
      go_ret
      exact ⟨rfl, unhide HBa⟩
end Go.Proofs.YtidblnjohkadhaaDoor
