/- The message that bytes are: the document's answer. -/
import Derived.Test.YtbnfilhilgjnfaaDoorGRt
import Derived.Test.YtbnfilhilgjnfaaDoorGRpt
import Derived.Test.YtbnfilhilgjnfaaDoorGRb
namespace Go.Proofs.YtbnfilhilgjnfaaDoor
set_option linter.unusedVariables false
set_option linter.unusedSimpArgs false
set_option maxRecDepth 100000
open Go.ChangeShapes Go.WideShapes Go.ChangeAt Go.RowKit Go.Joins

/-- how many parts the document's reader takes -/
def rCnt (l : List Nat) : Nat := (min (nVal l 8) 401).toNat
def rEd (l : List Nat) : List Ed.Pt := (partsR l (nSt l 9).1 (nSt l 9).2 (rCnt l)).1
def rFin (l : List Nat) : Nat × Int := (partsR l (nSt l 9).1 (nSt l 9).2 (rCnt l)).2
def RefOk (l : List Nat) : Prop := (rFin l).2 = 0 ∧ MsgOk (nVal l 0) (nsF (nVal l 1) (nVal l 2) (nVal l 3) (nVal l 4) (nVal l 5) (nVal l 6) (nVal l 7)) (rEd l) ∧ msgL (nVal l 0) (nVal l 1) (nVal l 2) (nVal l 3) (nVal l 4) (nVal l 5) (nVal l 6) (nVal l 7) (rEd l) = l
theorem win_num {l : List Nat} {k : Nat} {e : Int} (h : (Oc.winR l 0 400 k e).2.2 = 0) : Oc.numR l k e = Oc.winR l 0 400 k e ∧ (Oc.winR l 0 400 k e).1 ≤ 400 := by
  have hb := winR_bound l k e
  refine ⟨?_, hb.2⟩
  unfold Oc.numR
  unfold Oc.winR at h ⊢
  by_cases he : e ≠ 0
  · rw [if_pos he] at h; exact absurd h he
  rw [if_neg he] at h ⊢
  rw [if_neg he]
  by_cases hs : l.length < k + 8
  · rw [if_pos hs] at h; cases h
  rw [if_neg hs] at h ⊢
  rw [if_neg hs]
  by_cases hr : 9223372036854775807 < Oc.numOf ((l.drop k).take 8) ∨ (Oc.numOf ((l.drop k).take 8) : Int) < 0 ∨ 400 < (Oc.numOf ((l.drop k).take 8) : Int)
  · rw [if_pos hr] at h; cases h
  rw [if_neg hr, if_neg (by omega)]
theorem ref_of_get {l : List Nat} (h8 : U8 l) (h : GetOk l) : RefOk l ∧ rEd l = gEd l := by
  have h' := h
  obtain ⟨he, hm⟩ := h'
  unfold Oc.endE at he
  have hf0 : (gFin l).2 = 0 := by
    by_cases hz : (gFin l).2 = 0
    · exact hz
    · rw [if_pos hz] at he; exact absurd he hz
  have hkw : (Oc.winR l 0 400 (nSt l 8).1 (nSt l 8).2).2.1 ≤ l.length := by
    unfold Oc.winR
    have := nst_le l 8
    repeat' split
    all_goals first | exact this | (simp only; omega)
  obtain ⟨p1, _, _⟩ := parts_ok h8 hkw _ (show (partsR l _ _ _).2.2 = 0 from hf0)
  obtain ⟨w1, w2⟩ := win_num p1
  have e9 : nSt l 9 = (Oc.winR l 0 400 (nSt l 8).1 (nSt l 8).2).2 := by
    show (Oc.numR l (nSt l 8).1 (nSt l 8).2).2 = _
    rw [w1]
  have ev : nVal l 8 = (Oc.winR l 0 400 (nSt l 8).1 (nSt l 8).2).1 := by unfold nVal; rw [w1]
  have ec : rCnt l = (Oc.winR l 0 400 (nSt l 8).1 (nSt l 8).2).1.toNat := by
    unfold rCnt
    rw [ev, Int.min_eq_left (by omega)]
  have ee : rEd l = gEd l := by unfold rEd gEd editR; rw [e9, ec]
  have ef : rFin l = gFin l := by unfold rFin gFin editR; rw [e9, ec]
  exact ⟨⟨by rw [ef]; exact hf0, by rw [ee]; exact hm, by rw [ee]; exact get_put h8 h⟩, ee⟩
theorem get_of_ref {l : List Nat} (h : RefOk l) : GetOk l := by
  have q := (msg_back (nVal l 0) (nVal l 1) (nVal l 2) (nVal l 3) (nVal l 4) (nVal l 5) (nVal l 6) (nVal l 7) (rEd l) h.2.1).1
  rw [h.2.2] at q
  exact q
theorem rCnt_le (l : List Nat) : rCnt l ≤ 401 := by unfold rCnt; omega
theorem rEd_len (l : List Nat) : (rEd l).length ≤ 401 := by unfold rEd; rw [partsR_len]; exact rCnt_le l
theorem rEd_size (l : List Nat) : ∀ p ∈ rEd l, p.text.size ≤ l.length := partsR_size l _ _ _
theorem nVal_pos (l : List Nat) (i : Nat) : 0 ≤ nVal l i := by
  unfold nVal Oc.numR Oc.winR
  repeat' split
  all_goals first | exact Int.le_refl _ | (simp only; omega)
theorem numR_le (l : List Nat) (k : Nat) (e : Int) (hk : k ≤ l.length) : (Oc.numR l k e).2.1 ≤ l.length := by
  unfold Oc.numR Oc.winR
  repeat' split
  all_goals first | exact hk | (simp only; omega)
theorem textR_le (l : List Nat) (q k : Nat) (e : Int) (hk : k ≤ l.length) : (Oc.textR l q k e).2.1 ≤ l.length := by
  unfold Oc.textR
  repeat' split
  all_goals first | exact hk | (simp only; omega)
theorem partsR_le (l : List Nat) (k : Nat) (e : Int) (hk : k ≤ l.length) : ∀ m, (partsR l k e m).2.1 ≤ l.length := by
  intro m
  induction m with
  | zero => exact hk
  | succ m ih => exact textR_le l 256 _ _ (numR_le l _ _ (numR_le l _ _ ih))
theorem own_two {w1 w w' : World} {b s n g : Nat} {e : TypeId} {v : Value} {xs ys : List Value} (h1 : w1.ownsRow b e s v n ys) (h : w.ownsRow b e s v n xs) (hg : w1.heap.size ≤ g) (ho : Oc.Oth w w' g) : w'.ownsRow b e s v n xs := by
  obtain ⟨h3, h2⟩ := h
  refine ⟨h3, ?_⟩
  rcases h2 with h2 | ⟨g', cap, cur, e1, e2, e3, e4⟩
  · exact .inl h2
  · have hlt : g' < w.heap.size := by
      rcases Nat.lt_or_ge g' w.heap.size with hlt | hge
      · exact hlt
      · rw [Array.getElem?_eq_none hge] at e3; cases e3
    have hl1 : g' < w1.heap.size := by
      rcases h1.2 with ⟨q, _⟩ | ⟨g1, cap1, cur1, q, _, q3, _⟩
      · rw [e1] at q; cases q
      · rw [e1] at q
        cases q
        rcases Nat.lt_or_ge g' w1.heap.size with hlt | hge
        · exact hlt
        · rw [Array.getElem?_eq_none hge] at q3; cases q3
    exact .inr ⟨g', cap, cur, e1, e2, (ho g' hlt (by omega)).trans e3, e4⟩
def RgR (l : List Nat) (w : World) (r : Ending) (w' : World) : Prop := Below w.heap.size w w' ∧ (GetOk l → ∃ a c, r = .returned (.tuple #[msgV (nVal l 0) (nVal l 1) (nVal l 2) (nVal l 3) (nVal l 4) (nVal l 5) (nVal l 6) (nVal l 7) (.slice a (gEd l).length c), .int .i64 0]) ∧ Ed.PtsAt w' a (gEd l)) ∧ (¬ GetOk l → r = .returned (.tuple #[msgV 0 0 0 0 0 0 0 0 (.slice none 0 0), .int .i64 120]))
theorem Only.oth {w w' : World} {g : Nat} (h : Only (· = g) w w') : Oc.Oth w w' g := fun j hj hjg => h.block j hj hjg
theorem rnum_at (l : List Nat) (i : Nat) (g : Nat) (a : Option Addr) (n cap : Nat) (w : World) (hv : Byt w (.slice a n cap) l) (hr : RRd w g (.slice a n cap) (nSt l i).1 (nSt l i).2) (hl : n ≤ 1000000000) (h8 : U8 l) :
    Calls Tryd.prog 40 #[.pointer (some ⟨g, 0, none⟩)] w fun r w' => r = .returned (.int .i64 (nVal l i)) ∧ RRd w' g (.slice a n cap) (nSt l (i + 1)).1 (nSt l (i + 1)).2 ∧ Only (· = g) w w' :=
  rnum_tot g a n cap l _ _ w hv hr hl (by have := nst_le l i; have := (Oc.byt_cap (show Oc.Byt w (.slice a n cap) l from hv)).2.1; omega) h8
set_option maxHeartbeats 8000000 in
theorem rget_any (v : Value) (l : List Nat) (w : World) (hv : Byt w v l) (h8 : U8 l) (hl : l.length ≤ 100000000) :
    Calls Tryd.prog 19 #[v] w fun r w' => RgR l w r w' := by
  obtain ⟨a, cap, rfl⟩ := byt_shape hv
  obtain ⟨n, hn⟩ : ∃ n, l.length = n := ⟨_, rfl⟩
  rw [hn] at hv hl ⊢
  have HN := hide hn
  have HV := hide hv
  have H8 := hide h8
  have HLW : Hid (∀ ad, a = some ad → 0 < n → ad.block < w.heap.size) := hide (fun ad e hp => by
    subst e
    rcases hv with ⟨h1, _⟩ | ⟨a1, c1, h1, _, _, h3⟩
    · cases h1
    · injection h1 with h1 _ _
      injection h1 with h1
      subst h1
      have h4 := lt_of_cell (h3 0 _ (List.getElem?_eq_getElem (by omega)))
      have h5 : (ad.add 0).block = ad.block := by
        obtain ⟨b, off, s⟩ := ad
        simp only [Addr.add]
        split <;> rfl
      rw [h5] at h4
      exact h4)
  have b0 : Below w.heap.size w (w.alloc (.cells #[.int .i64 0, .int .i64 0, .int .i64 0, .int .i64 0, .int .i64 0, .int .i64 0, .int .i64 0, .int .i64 0, .slice none 0 0] 25)) := (Below.refl _ _).alloc (Nat.le_refl _) _
  have HRZ := hide (RowAt.new w 25 [.int .i64 0, .int .i64 0, .int .i64 0, .int .i64 0, .int .i64 0, .int .i64 0, .int .i64 0, .int .i64 0, .slice none 0 0])
  have hs0 : (w.alloc (.cells #[.int .i64 0, .int .i64 0, .int .i64 0, .int .i64 0, .int .i64 0, .int .i64 0, .int .i64 0, .int .i64 0, .slice none 0 0] 25)).heap.size = w.heap.size + 1 := by simp
  obtain ⟨wZ, hZ⟩ : ∃ z, w.alloc (.cells #[.int .i64 0, .int .i64 0, .int .i64 0, .int .i64 0, .int .i64 0, .int .i64 0, .int .i64 0, .int .i64 0, .slice none 0 0] 25) = z := ⟨_, rfl⟩
  rw [hZ] at b0 HRZ hs0
  have b1 : Below wZ.heap.size wZ (wZ.alloc (.cells #[.slice a n cap, .int .i64 0, .int .i64 0] 69)) := (Below.refl _ _).alloc (Nat.le_refl _) _
  have R1 := RowAt.new wZ 69 [.slice a n cap, .int .i64 0, .int .i64 0]
  rw [hs0] at R1
  have HB_0 := hide (b0.trans (b1.mono b0.size))
  have HZ_0 := hide ((unhide HRZ).below b1 (unhide HRZ).lt)
  have HR_0 : Hid (RRd (wZ.alloc (.cells #[.slice a n cap, .int .i64 0, .int .i64 0] 69)) (w.heap.size + 1) (.slice a n cap) (nSt l 0).1 (nSt l 0).2) := hide R1
  rw [← hZ] at HB_0 HZ_0 HR_0
  clear b0 b1 R1 hs0 hZ hv h8 hn HRZ
  go_enter Tryd.func19, Tryd.ntmps19
  go_wp2_with fail
  generalize (w.alloc (.cells #[.int .i64 0, .int .i64 0, .int .i64 0, .int .i64 0, .int .i64 0, .int .i64 0, .int .i64 0, .int .i64 0, .slice none 0 0] 25)).alloc (.cells #[.slice a n cap, .int .i64 0, .int .i64 0] 69) = w0 at *
  obtain ⟨g, hg⟩ : ∃ g, w.heap.size + 1 = g := ⟨_, rfl⟩
  have HG : Hid (w.heap.size < g) := hide (by omega)
  rw [hg] at HR_0
  try rw [hg]
  have HGL : Hid (∀ ad, a = some ad → 0 < n → ad.block ≠ g) := hide (fun ad e hp => by have := unhide HLW ad e hp; have := unhide HG; omega)
  clear hg
  
  refine Calls.mono (rnum_at l 0 g a n cap w0 ((unhide HV).call (unhide HB_0)) (unhide HR_0) (by omega) (unhide H8)) ?_
  rintro r w1 ⟨rfl, s1, t1⟩
  have HR_1 := hide s1
  have HB_1 := hide ((unhide HB_0).trans (t1.below (unhide HB_0).size (fun k hk => by have := unhide HG; omega)))
  have HZ_1 := hide ((unhide HZ_0).only t1 (by have := unhide HG; omega))
  obtain ⟨y0, hy0⟩ : ∃ z, nVal l 0 = z := ⟨_, rfl⟩
  rw [hy0]
  have HY0 := hide hy0
  clear s1 t1 hy0 HR_0 HB_0 HZ_0
  go_wp2_with fail
  refine Calls.mono (rnum_at l 1 g a n cap w1 ((unhide HV).call (unhide HB_1)) (unhide HR_1) (by omega) (unhide H8)) ?_
  rintro r w2 ⟨rfl, s2, t2⟩
  have HR_2 := hide s2
  have HB_2 := hide ((unhide HB_1).trans (t2.below (unhide HB_1).size (fun k hk => by have := unhide HG; omega)))
  have HZ_2 := hide ((unhide HZ_1).only t2 (by have := unhide HG; omega))
  obtain ⟨y1, hy1⟩ : ∃ z, nVal l 1 = z := ⟨_, rfl⟩
  rw [hy1]
  have HY1 := hide hy1
  clear s2 t2 hy1 HR_1 HB_1 HZ_1
  go_wp2_with fail
  refine Calls.mono (rnum_at l 2 g a n cap w2 ((unhide HV).call (unhide HB_2)) (unhide HR_2) (by omega) (unhide H8)) ?_
  rintro r w3 ⟨rfl, s3, t3⟩
  have HR_3 := hide s3
  have HB_3 := hide ((unhide HB_2).trans (t3.below (unhide HB_2).size (fun k hk => by have := unhide HG; omega)))
  have HZ_3 := hide ((unhide HZ_2).only t3 (by have := unhide HG; omega))
  obtain ⟨y2, hy2⟩ : ∃ z, nVal l 2 = z := ⟨_, rfl⟩
  rw [hy2]
  have HY2 := hide hy2
  clear s3 t3 hy2 HR_2 HB_2 HZ_2
  go_wp2_with fail
  refine Calls.mono (rnum_at l 3 g a n cap w3 ((unhide HV).call (unhide HB_3)) (unhide HR_3) (by omega) (unhide H8)) ?_
  rintro r w4 ⟨rfl, s4, t4⟩
  have HR_4 := hide s4
  have HB_4 := hide ((unhide HB_3).trans (t4.below (unhide HB_3).size (fun k hk => by have := unhide HG; omega)))
  have HZ_4 := hide ((unhide HZ_3).only t4 (by have := unhide HG; omega))
  obtain ⟨y3, hy3⟩ : ∃ z, nVal l 3 = z := ⟨_, rfl⟩
  rw [hy3]
  have HY3 := hide hy3
  clear s4 t4 hy3 HR_3 HB_3 HZ_3
  go_wp2_with fail
  refine Calls.mono (rnum_at l 4 g a n cap w4 ((unhide HV).call (unhide HB_4)) (unhide HR_4) (by omega) (unhide H8)) ?_
  rintro r w5 ⟨rfl, s5, t5⟩
  have HR_5 := hide s5
  have HB_5 := hide ((unhide HB_4).trans (t5.below (unhide HB_4).size (fun k hk => by have := unhide HG; omega)))
  have HZ_5 := hide ((unhide HZ_4).only t5 (by have := unhide HG; omega))
  obtain ⟨y4, hy4⟩ : ∃ z, nVal l 4 = z := ⟨_, rfl⟩
  rw [hy4]
  have HY4 := hide hy4
  clear s5 t5 hy4 HR_4 HB_4 HZ_4
  go_wp2_with fail
  refine Calls.mono (rnum_at l 5 g a n cap w5 ((unhide HV).call (unhide HB_5)) (unhide HR_5) (by omega) (unhide H8)) ?_
  rintro r w6 ⟨rfl, s6, t6⟩
  have HR_6 := hide s6
  have HB_6 := hide ((unhide HB_5).trans (t6.below (unhide HB_5).size (fun k hk => by have := unhide HG; omega)))
  have HZ_6 := hide ((unhide HZ_5).only t6 (by have := unhide HG; omega))
  obtain ⟨y5, hy5⟩ : ∃ z, nVal l 5 = z := ⟨_, rfl⟩
  rw [hy5]
  have HY5 := hide hy5
  clear s6 t6 hy5 HR_5 HB_5 HZ_5
  go_wp2_with fail
  refine Calls.mono (rnum_at l 6 g a n cap w6 ((unhide HV).call (unhide HB_6)) (unhide HR_6) (by omega) (unhide H8)) ?_
  rintro r w7 ⟨rfl, s7, t7⟩
  have HR_7 := hide s7
  have HB_7 := hide ((unhide HB_6).trans (t7.below (unhide HB_6).size (fun k hk => by have := unhide HG; omega)))
  have HZ_7 := hide ((unhide HZ_6).only t7 (by have := unhide HG; omega))
  obtain ⟨y6, hy6⟩ : ∃ z, nVal l 6 = z := ⟨_, rfl⟩
  rw [hy6]
  have HY6 := hide hy6
  clear s7 t7 hy6 HR_6 HB_6 HZ_6
  have bM : Below w7.heap.size w7 (w7.alloc (.cells #[.int .i64 y0, .int .i64 y1, .int .i64 y2, .int .i64 y3, .int .i64 y4, .int .i64 y5, .int .i64 y6, .int .i64 0, .slice none 0 0] 25)) := (Below.refl _ _).alloc (Nat.le_refl _) _
  have HM7 := hide (RowAt.new w7 25 [.int .i64 y0, .int .i64 y1, .int .i64 y2, .int .i64 y3, .int .i64 y4, .int .i64 y5, .int .i64 y6, .int .i64 0, .slice none 0 0])
  have HR7m := hide ((unhide HR_7 : RowAt w7 g 69 _).below bM (unhide HR_7 : RowAt w7 g 69 _).lt)
  have HB7m := hide ((unhide HB_7).trans (bM.mono (unhide HB_7).size))
  have HZ7m := hide ((unhide HZ_7).below bM (unhide HZ_7).lt)
  have HGM0 : Hid (g < w7.heap.size) := hide (unhide HR_7 : RowAt w7 g 69 _).lt
  clear bM HR_7 HB_7 HZ_7
  go_wp2_with fail
  obtain ⟨gM, hgM⟩ : ∃ z, w7.heap.size = z := ⟨_, rfl⟩
  rw [hgM] at HM7 HGM0
  try rw [hgM]
  generalize w7.alloc (.cells #[.int .i64 y0, .int .i64 y1, .int .i64 y2, .int .i64 y3, .int .i64 y4, .int .i64 y5, .int .i64 y6, .int .i64 0, .slice none 0 0] 25) = w7m at *
  clear hgM
  refine Calls.mono (rnum_at l 7 g a n cap w7m ((unhide HV).call (unhide HB7m)) (unhide HR7m) (by omega) (unhide H8)) ?_
  rintro r w8 ⟨rfl, s8, t8⟩
  have HM8 := hide ((unhide HM7).only t8 (by have := unhide HGM0; omega))
  have HB_8 := hide ((unhide HB7m).trans (t8.below (unhide HB7m).size (fun k hk => by have := unhide HG; omega)))
  have HZ_8 := hide ((unhide HZ7m).only t8 (by have := unhide HG; omega))
  obtain ⟨y7, hy7⟩ : ∃ z, nVal l 7 = z := ⟨_, rfl⟩
  rw [hy7]
  have HY7 := hide hy7
  have o8 : Only (· = gM) w8 (w8.setCell ⟨gM, 7, none⟩ (.int .i64 y7)) := Only.set (p := fun x => x = gM) (Only.refl _ _) gM 7 _ rfl
  have HM8s : Hid (RowAt (w8.setCell ⟨gM, 7, none⟩ (.int .i64 y7)) gM 25 [.int .i64 y0, .int .i64 y1, .int .i64 y2, .int .i64 y3, .int .i64 y4, .int .i64 y5, .int .i64 y6, .int .i64 y7, .slice none 0 0]) := hide (RowAt.set (unhide HM8) 7 (.int .i64 y7))
  have HR8s : Hid (RRd (w8.setCell ⟨gM, 7, none⟩ (.int .i64 y7)) g (.slice a n cap) (nSt l 8).1 (nSt l 8).2) := hide (RowAt.only (p := fun x => x = gM) s8 o8 (by have := unhide HGM0; omega))
  have HB8s := hide ((unhide HB_8).trans (o8.below (unhide HB_8).size (fun k hk => by have := unhide HG; have := unhide HGM0; omega)))
  have HZ8s := hide ((unhide HZ_8).only o8 (by have := unhide HG; have := unhide HGM0; omega))
  have m7 : w8.cell? ⟨gM, 7, none⟩ = some (.int .i64 0) := (unhide HM8).cell 7
  have m7z := RowAt.frozen (unhide HM8) 7
  clear s8 t8 hy7 o8 HR7m HB7m HZ7m HM7 HM8 HB_8 HZ_8
  go_wp2_with fail
  generalize w8.setCell ⟨gM, 7, none⟩ (.int .i64 y7) = w8s at *
  refine Calls.mono (rnum_at l 8 g a n cap w8s ((unhide HV).call (unhide HB8s)) (unhide HR8s) (by omega) (unhide H8)) ?_
  rintro r w9 ⟨rfl, s9, t9⟩
  have HM9 := hide ((unhide HM8s).only t9 (by have := unhide HGM0; omega))
  have HB_9 := hide ((unhide HB8s).trans (t9.below (unhide HB8s).size (fun k hk => by have := unhide HG; omega)))
  have HZ_9 := hide ((unhide HZ8s).only t9 (by have := unhide HG; omega))
  have HR_9 := hide s9
  have HCN : Hid (min (nVal l 8) 401 = (rCnt l : Int)) := hide (by have := nVal_pos l 8; unfold rCnt; omega)
  have HC4 := hide (rCnt_le l)
  have HED : Hid (rEd l = (partsR l (nSt l 9).1 (nSt l 9).2 (rCnt l)).1 ∧ rFin l = (partsR l (nSt l 9).1 (nSt l 9).2 (rCnt l)).2) := hide ⟨rfl, rfl⟩
  obtain ⟨cm, hcm⟩ : ∃ z, rCnt l = z := ⟨_, rfl⟩
  rw [hcm] at HCN HC4 HED
  obtain ⟨cv, hcv⟩ : ∃ z, nVal l 8 = z := ⟨_, rfl⟩
  rw [hcv] at HCN ⊢
  obtain ⟨k9, hk9⟩ : ∃ z, (nSt l 9).1 = z := ⟨_, rfl⟩
  obtain ⟨e9, he9⟩ : ∃ z, (nSt l 9).2 = z := ⟨_, rfl⟩
  have HK9 : Hid (k9 ≤ n) := hide (by have := nst_le l 9; have := unhide HN; omega)
  rw [hk9, he9] at HR_9 HED
  have hmin := unhide HCN
  clear s9 t9 hcm hcv hk9 he9 HM8s HR8s HB8s HZ8s m7 m7z
  go_wp2_with fail
  obtain ⟨B, hB⟩ : ∃ z, w9.heap.size = z := ⟨_, rfl⟩
  have HGB : Hid (gM < B) := hide (by rw [← hB]; exact (unhide HM9).lt)
  have HBB := hide hB
  clear hB hmin
  go_loopw [35] (fun i wr => ∃ (j : Nat) (vE : Value), j ≤ cm ∧ i = .int .i64 (j : Int) ∧ Hid (Ed.OwnP wr B vE (partsR l k9 e9 j).1) ∧ Hid (RowAt wr gM 25 [.int .i64 y0, .int .i64 y1, .int .i64 y2, .int .i64 y3, .int .i64 y4, .int .i64 y5, .int .i64 y6, .int .i64 y7, vE]) ∧ Hid (RRd wr g (.slice a n cap) (partsR l k9 e9 j).2.1 (partsR l k9 e9 j).2.2) ∧ Hid (Below w.heap.size w wr) ∧ Hid (RowAt wr w.heap.size 25 [.int .i64 0, .int .i64 0, .int .i64 0, .int .i64 0, .int .i64 0, .int .i64 0, .int .i64 0, .int .i64 0, .slice none 0 0]) ∧ Hid (B ≤ wr.heap.size)) (fun i _ => ((cm : Int) - intOf i).toNat)
  case atStart => exact ⟨0, .slice none 0 0, by omega, by simp, hide (Ed.OwnP.nil _ _), HM9, HR_9, HB_9, HZ_9, hide (by rw [unhide HBB]; exact Nat.le_refl _)⟩
  case round =>
    obtain ⟨j, vE, hj, rfl, HOW, HMW, HRW, HBW, HZW, HSW⟩ := hrel
    by_cases hlt : j < cm
    · have jI : (j : Int) < (cm : Int) := by omega
      have HNX : Hid ((partsR l k9 e9 (j + 1)).1 = (partsR l k9 e9 j).1 ++ [(partR l (partsR l k9 e9 j).2.1 (partsR l k9 e9 j).2.2).1] ∧ (partsR l k9 e9 (j + 1)).2 = (partR l (partsR l k9 e9 j).2.1 (partsR l k9 e9 j).2.2).2) := hide ⟨rfl, rfl⟩
      have HLN := hide (partsR_len l k9 e9 j)
      have HKJ : Hid ((partsR l k9 e9 j).2.1 ≤ n) := hide (by have := partsR_le l k9 e9 (by have := unhide HK9; have := unhide HN; omega) j; have := unhide HN; omega)
      obtain ⟨ps, hps⟩ : ∃ z, (partsR l k9 e9 j).1 = z := ⟨_, rfl⟩
      obtain ⟨kj, hkj⟩ : ∃ z, (partsR l k9 e9 j).2.1 = z := ⟨_, rfl⟩
      obtain ⟨ej, hej⟩ : ∃ z, (partsR l k9 e9 j).2.2 = z := ⟨_, rfl⟩
      rw [hps] at HOW HNX HLN
      rw [hkj, hej] at HRW HNX
      rw [hkj] at HKJ
      clear hps hkj hej
      have HA := hide (rnum_tot g a n cap l kj ej wr ((unhide HV).call (unhide HBW)) (unhide HRW) (by omega) (unhide HKJ) (unhide H8))
      have HKA : Hid ((Oc.numR l kj ej).2.1 ≤ n) := hide (by have := numR_le l kj ej (by have := unhide HKJ; have := unhide HN; omega); have := unhide HN; omega)
      unfold partR at HNX
      obtain ⟨xa, hxa⟩ : ∃ z, Oc.numR l kj ej = z := ⟨_, rfl⟩
      rw [hxa] at HA HNX HKA
      clear hxa
      obtain ⟨va, ka, ea⟩ := xa
      simp only at HKA
      have HKB : Hid ((Oc.numR l ka ea).2.1 ≤ n) := hide (by have := numR_le l ka ea (by have := unhide HKA; have := unhide HN; omega); have := unhide HN; omega)
      obtain ⟨xb, hxb⟩ : ∃ z, Oc.numR l ka ea = z := ⟨_, rfl⟩
      have HXB := hide hxb
      simp only [hxb] at HNX
      rw [hxb] at HKB
      clear hxb
      obtain ⟨vb, kb, eb⟩ := xb
      simp only at HKB
      obtain ⟨xc, hxc⟩ : ∃ z, Oc.textR l 256 kb eb = z := ⟨_, rfl⟩
      have HXC := hide hxc
      simp only [hxc] at HNX
      clear hxc
      obtain ⟨vc, kc, ec⟩ := xc
      simp only at HNX
      have hgb : g < B := by have := unhide HGM0; have := unhide HGB; omega
      have hmb : gM < B := unhide HGB
      go_wp2_with fail
      refine Calls.mono (unhide HA) ?_
      rintro r wa ⟨rfl, sa, ta⟩
      have HOa := hide (own_oth (unhide HOW) hgb ta.oth)
      have HMa := hide ((unhide HMW).only ta (by have := unhide HGM0; omega))
      have HBa := hide ((unhide HBW).trans (ta.below (unhide HBW).size (fun k hk => by have := unhide HG; omega)))
      have HZa := hide ((unhide HZW).only ta (by have := unhide HG; omega))
      have HSa := hide (Nat.le_trans (unhide HSW) ta.size)
      have HBc := hide (rnum_tot g a n cap l ka ea wa ((unhide HV).call (unhide HBa)) sa (by omega) (unhide HKA) (unhide H8))
      rw [unhide HXB] at HBc
      clear sa ta HA HOW HMW HRW HBW HZW HSW
      go_wp2_with fail
      refine Calls.mono (unhide HBc) ?_
      rintro r wb ⟨rfl, sb, tb⟩
      have HOb := hide (own_oth (unhide HOa) hgb tb.oth)
      have HMb := hide ((unhide HMa).only tb (by have := unhide HGM0; omega))
      have HBb := hide ((unhide HBa).trans (tb.below (unhide HBa).size (fun k hk => by have := unhide HG; omega)))
      have HZb := hide ((unhide HZa).only tb (by have := unhide HG; omega))
      have HSb := hide (Nat.le_trans (unhide HSa) tb.size)
      have bc : Below wb.heap.size wb (wb.alloc (.cells #[.int .i64 va, .int .i64 vb, .string ⟨#[]⟩] 44)) := (Below.refl _ _).alloc (Nat.le_refl _) _
      have HPc := hide (RowAt.new wb 44 [.int .i64 va, .int .i64 vb, .string ⟨#[]⟩])
      have HRc := hide ((sb : RowAt wb g 69 _).below bc (sb : RowAt wb g 69 _).lt)
      have HOc := hide ((unhide HOb : Ed.OwnP wb B vE ps).call bc)
      have HMc := hide ((unhide HMb).below bc (unhide HMb).lt)
      have HBc' := hide ((unhide HBb).trans (bc.mono (unhide HBb).size))
      have HZc := hide ((unhide HZb).below bc (unhide HZb).lt)
      have HSc := hide (Nat.le_trans (unhide HSb) bc.size)
      have HSP : Hid (B ≤ wb.heap.size) := HSb
      clear sb tb HBc HOa HMa HBa HZa HSa HMb HBb HZb bc
      go_wp2_with fail
      obtain ⟨gp, hgp⟩ : ∃ z, wb.heap.size = z := ⟨_, rfl⟩
      rw [hgp] at HPc HSP
      try rw [hgp]
      generalize wb.alloc (.cells #[.int .i64 va, .int .i64 vb, .string ⟨#[]⟩] 44) = wc at *
      have HGP : Hid (wb.heap.size ≤ gp) := hide (by omega)
      clear hgp
      have HTx := hide (rtext_tot g a n cap l kb eb wc ((unhide HV).call (unhide HBc')) (unhide HGL) (unhide HRc) (by omega) (unhide HKB) (unhide H8))
      rw [unhide HXC] at HTx
      refine Calls.mono (unhide HTx) ?_
      rintro r wd ⟨rfl, sd, td⟩
      have HPd := hide ((unhide HPc).only td (by have := unhide HSP; omega))
      have HOd := hide (own_oth (unhide HOc) hgb td.oth)
      have HMd := hide ((unhide HMc).only td (by have := unhide HGM0; omega))
      have HBd := hide ((unhide HBc').trans (td.below (unhide HBc').size (fun k hk => by have := unhide HG; omega)))
      have HZd := hide ((unhide HZc).only td (by have := unhide HG; omega))
      have HSd := hide (Nat.le_trans (unhide HSc) td.size)
      have HRd := hide sd
      clear sd td HTx HPc HRc HOc HMc HBc' HZc HSc
      have os : Only (· = gp) wd (wd.setCell ⟨gp, 2, none⟩ (.string vc)) := Only.set (p := fun x => x = gp) (Only.refl _ _) gp 2 _ rfl
      have HPs : Hid (RowAt (wd.setCell ⟨gp, 2, none⟩ (.string vc)) gp 44 [.int .i64 va, .int .i64 vb, .string vc]) := hide (RowAt.set (unhide HPd) 2 (.string vc))
      have HRs := hide (RowAt.only (p := fun x => x = gp) (unhide HRd) os (by have := unhide HSP; omega))
      have HOs := hide (own_two (unhide HOb) (unhide HOd) (unhide HGP) os.oth)
      have HMs := hide ((unhide HMd).only os (by have := unhide HSP; omega))
      have HBs := hide ((unhide HBd).trans (os.below (unhide HBd).size (fun k hk => by have := unhide HSP; have := unhide HG; omega)))
      have HZs := hide ((unhide HZd).only os (by have := unhide HSP; have := unhide HG; omega))
      have HSs := hide (Nat.le_trans (unhide HSd) os.size)
      have p2 : wd.cell? ⟨gp, 2, none⟩ = some (.string ⟨#[]⟩) := (unhide HPd).cell 2
      have p2z := RowAt.frozen (unhide HPd) 2
      clear os HPd HRd HOd HMd HBd HZd HSd HOb
      have r0 : (wd.setCell ⟨gp, 2, none⟩ (.string vc)).cell? ⟨gp, 0, none⟩ = some (.int .i64 va) := (unhide HPs).cell 0
      have r1 : (wd.setCell ⟨gp, 2, none⟩ (.string vc)).cell? ⟨gp, 1, none⟩ = some (.int .i64 vb) := (unhide HPs).cell 1
      have r2 : (wd.setCell ⟨gp, 2, none⟩ (.string vc)).cell? ⟨gp, 2, none⟩ = some (.string vc) := (unhide HPs).cell 2
      have r8 : (wd.setCell ⟨gp, 2, none⟩ (.string vc)).cell? ⟨gM, 8, none⟩ = some vE := (unhide HMs).cell 8
      have b5 : Below (wd.setCell ⟨gp, 2, none⟩ (.string vc)).heap.size (wd.setCell ⟨gp, 2, none⟩ (.string vc)) ((wd.setCell ⟨gp, 2, none⟩ (.string vc)).alloc (.cells #[.int .i64 va, .int .i64 vb, .string vc] 44)) := (Below.refl _ _).alloc (Nat.le_refl _) _
      have R5 := RowAt.new (wd.setCell ⟨gp, 2, none⟩ (.string vc)) 44 [.int .i64 va, .int .i64 vb, .string vc]
      rw [show (wd.setCell ⟨gp, 2, none⟩ (.string vc)).heap.size = wd.heap.size from by simp] at R5
      have HO5 := hide ((unhide HOs : Ed.OwnP _ B vE ps).call b5)
      have HM5 := hide ((unhide HMs).below b5 (unhide HMs).lt)
      have HR5' := hide ((unhide HRs).below b5 (unhide HRs).lt)
      have HB5 := hide ((unhide HBs).trans (b5.mono (unhide HBs).size))
      have HZ5 := hide ((unhide HZs).below b5 (unhide HZs).lt)
      have HSB := hide (Nat.le_trans (unhide HSs) b5.size)
      have HR5 : Hid (∀ (b : Addr), some ⟨wd.heap.size, 0, none⟩ = some b → ∀ (j : Nat) (u : Value), (Ed.pcs ⟨va, vb, vc⟩)[j]? = some u → ((wd.setCell ⟨gp, 2, none⟩ (.string vc)).alloc (.cells #[.int .i64 va, .int .i64 vb, .string vc] 44)).cell? (b.add j) = some u) := hide (fun b hb j u hu => by
        cases hb
        rw [Addr.add_lit, R5.cell, Nat.zero_add]
        exact hu)
      clear b5 R5 HOs HMs HRs HBs HZs HSs HPs
      obtain ⟨i0, hi, hz0, hz1, hz2⟩ := Ed.infoPart
      go_wp2_with (at_builtin; refine wpList_append_src _ rfl _ _ 23 rfl B 44 i0 (.agg #[.int .i64 0, .int .i64 0, .string ⟨#[]⟩]) 3 32 Tryd.underlying23 hi hz0 hz1 hz2 (by simp [Value.cells]) (by decide) _ _ _ rfl (unhide HO5) (some ⟨wd.heap.size, 0, none⟩) 1 1 (Ed.pcs ⟨va, vb, vc⟩) rfl (by rfl) (fun h => by cases h) (unhide HR5) ?c2 ?c3 ?c4 (unhide HSB) ?_)
      case c2 =>
        intro u hu
        simp only [Ed.pcs, List.mem_cons, List.not_mem_nil, or_false] at hu
        rcases hu with rfl | rfl | rfl <;> rfl
      case c3 => rw [unhide HLN]; unfold maxLen; have := unhide HC4; omega
      case c4 => rw [unhide HLN]; have := unhide HC4; omega
      intro ad6 cap6 w6 O6 g6
      generalize (wd.setCell ⟨gp, 2, none⟩ (.string vc)).alloc (.cells #[.int .i64 va, .int .i64 vb, .string vc] 44) = w5 at *
      have b6 : Below B w5 w6 := (Below.refl _ _).grown g6 (unhide HSB) (fun k hk => ((unhide HO5).lt k hk).1)
      have O6' : Ed.OwnP w6 B (.slice ad6 (ps.length + 1) cap6) (ps ++ [⟨va, vb, vc⟩]) := by
        unfold Ed.OwnP
        rw [List.length_append, Ed.ptc_snoc]
        exact O6
      have HM6 := hide ((unhide HM5).below b6 hmb)
      have HR6 := hide ((unhide HR5').below b6 hgb)
      have HB6 := hide ((unhide HB5).trans (b6.mono (by have := unhide HG; omega)))
      have HZ6 := hide ((unhide HZ5).below b6 (by have := unhide HG; omega))
      have HS6 := hide (Nat.le_trans (unhide HSB) b6.size)
      have HO6 := hide O6'
      have m8 : w6.cell? ⟨gM, 8, none⟩ = some vE := (unhide HM6).cell 8
      have m8z := RowAt.frozen (unhide HM6) 8
      have o7 : Only (· = gM) w6 (w6.setCell ⟨gM, 8, none⟩ (.slice ad6 (ps.length + 1) cap6)) := Only.set (p := fun x => x = gM) (Only.refl _ _) gM 8 _ rfl
      have HM7 : Hid (RowAt (w6.setCell ⟨gM, 8, none⟩ (.slice ad6 (ps.length + 1) cap6)) gM 25 [.int .i64 y0, .int .i64 y1, .int .i64 y2, .int .i64 y3, .int .i64 y4, .int .i64 y5, .int .i64 y6, .int .i64 y7, .slice ad6 (ps.length + 1) cap6]) := hide (RowAt.set (unhide HM6) 8 (.slice ad6 (ps.length + 1) cap6))
      have HR7 := hide (RowAt.only (p := fun x => x = gM) (unhide HR6) o7 (by have := unhide HGM0; omega))
      have HO7 := hide (own_oth (unhide HO6) hmb o7.oth)
      have HB7 := hide ((unhide HB6).trans (o7.below (unhide HB6).size (fun k hk => by have := unhide HGM0; have := unhide HG; omega)))
      have HZ7 := hide ((unhide HZ6).only o7 (by have := unhide HGM0; have := unhide HG; omega))
      have HS7 := hide (Nat.le_trans (unhide HS6) o7.size)
      have hc4 := unhide HC4
      clear O6 O6' g6 b6 o7 HO5 HM5 HR5' HB5 HZ5 HSB HR5 HM6 HR6 HO6 HB6 HZ6 HS6 p2 p2z r0 r1 r2 r8
      go_wp2_with fail
      exact ⟨⟨j + 1, (.slice ad6 (ps.length + 1) cap6), by omega, by simp, by rw [(unhide HNX).1]; exact HO7, HM7, by rw [(unhide HNX).2]; exact HR7, HB7, HZ7, HS7⟩, by simp [intOf]; omega⟩
    · obtain rfl : cm = j := by omega
      have jI : ¬ (cm : Int) < (cm : Int) := by omega
      rw [← (unhide HED).1] at HOW
      rw [← (unhide HED).2] at HRW
      obtain ⟨ae, ce, hve, pe, _, _⟩ := (unhide HOW).slice
      subst hve
      have HGP : Hid (∀ b off, ae = some ⟨b, off, none⟩ → w.heap.size < b) := hide (fun b off e => by
        rcases (unhide HOW).2 with ⟨e2, _⟩ | ⟨g', c', cur, e2, hb, _⟩
        · injection e2 with e3 _ _; rw [e] at e3; cases e3
        · injection e2 with e3 _ _; rw [e] at e3; cases e3; have := unhide HGB; have := unhide HGM0; have := unhide HG; omega)
      have HPU := hide (rput_any y0 y1 y2 y3 y4 y5 y6 y7 ae (rEd l) ce wr pe (by have := rEd_len l; omega) (fun p hp => by have := rEd_size l p hp; have := unhide HN; omega))
      have HPE := hide pe
      obtain ⟨en, hen⟩ : ∃ z, (rEd l).length = z := ⟨_, rfl⟩
      rw [hen] at HPU HMW
      have HEN := hide hen
      obtain ⟨ez, hez⟩ : ∃ z, (rFin l).2 = z := ⟨_, rfl⟩
      rw [hez] at HRW
      have HEZ := hide hez
      obtain ⟨kz, hkz⟩ : ∃ z, (rFin l).1 = z := ⟨_, rfl⟩
      rw [hkz] at HRW
      clear hen hez hkz pe HOW
      unfold msgV at HPU
      have c0 : wr.cell? ⟨gM, 0, none⟩ = some (.int .i64 y0) := (unhide HMW).cell 0
      have c1 : wr.cell? ⟨gM, 1, none⟩ = some (.int .i64 y1) := (unhide HMW).cell 1
      have c2 : wr.cell? ⟨gM, 2, none⟩ = some (.int .i64 y2) := (unhide HMW).cell 2
      have c3 : wr.cell? ⟨gM, 3, none⟩ = some (.int .i64 y3) := (unhide HMW).cell 3
      have c4 : wr.cell? ⟨gM, 4, none⟩ = some (.int .i64 y4) := (unhide HMW).cell 4
      have c5 : wr.cell? ⟨gM, 5, none⟩ = some (.int .i64 y5) := (unhide HMW).cell 5
      have c6 : wr.cell? ⟨gM, 6, none⟩ = some (.int .i64 y6) := (unhide HMW).cell 6
      have c7 : wr.cell? ⟨gM, 7, none⟩ = some (.int .i64 y7) := (unhide HMW).cell 7
      have c8 : wr.cell? ⟨gM, 8, none⟩ = some (.slice ae en ce) := (unhide HMW).cell 8
      go_wp2_with fail
      refine Calls.mono (unhide HPU) ?_
      rintro r wp ⟨bp, hok, hno⟩
      have HBp := hide ((unhide HBW).trans (bp.mono (unhide HBW).size))
      have HRp := hide ((unhide HRW : RowAt wr g 69 _).below bp (unhide HRW : RowAt wr g 69 _).lt)
      have HMp := hide ((unhide HMW).below bp (unhide HMW).lt)
      have HZp := hide ((unhide HZW).below bp (unhide HZW).lt)
      have HPp := hide ((unhide HPE).call bp)
      have q2 : wp.cell? ⟨g, 2, none⟩ = some (.int .i64 ez) := (unhide HRp).cell 2
      obtain ⟨Z, hZ⟩ : ∃ E : Array Value, ([.int .i64 0, .int .i64 0, .int .i64 0, .int .i64 0, .int .i64 0, .int .i64 0, .int .i64 0, .int .i64 0, .slice none 0 0] : List Value).toArray = E := ⟨_, rfl⟩
      have HZZ := hide hZ
      have HZS : Hid (Z.size = 9) := hide (by rw [← hZ]; rfl)
      have HZO : Hid (Z.all (·.oneCell') = true) := hide (by rw [← hZ]; simp only [List.all_toArray, List.all_cons, List.all_nil, Bool.and_true]; rfl)
      have HE2 := hide ((unhide HZp).arr hZ)
      clear hZ bp HBW HRW HMW HZW HPE HPU HM9 HB_9 HZ_9 HR_9 c0 c1 c2 c3 c4 c5 c6 c7 c8
      by_cases hm : MsgOk y0 (nsF y1 y2 y3 y4 y5 y6 y7) (rEd l)
      · obtain ⟨vx, rfl, hx⟩ := hok hm
        have HX := hide hx
        obtain ⟨m, hmm⟩ : ∃ z, msgL y0 y1 y2 y3 y4 y5 y6 y7 (rEd l) = z := ⟨_, rfl⟩
        have H8m : Hid (U8 m) := hide (by rw [← hmm]; exact msgL_8 _ _ _ _ _ _ _ _ _)
        rw [hmm] at HX
        have HMM := hide hmm
        have HM := hide hm
        clear hok hno hm hx hmm
        by_cases hz : ez = 0
        · subst hz
          have u1 := byt_convert (unhide HX) (unhide H8m)
          have u2 := byt_convert ((unhide HV).call (unhide HBp)) (unhide H8)
          obtain ⟨ax, cx, hvx⟩ := byt_shape (unhide HX)
          subst hvx
          by_cases hq : m = l
          · subst hq
            have HOK : Hid (GetOk m ∧ rEd m = gEd m) := hide (by
              have h := get_of_ref (l := m) ⟨unhide HEZ, by rw [unhide HY0, unhide HY1, unhide HY2, unhide HY3, unhide HY4, unhide HY5, unhide HY6, unhide HY7]; exact unhide HM, by rw [unhide HY0, unhide HY1, unhide HY2, unhide HY3, unhide HY4, unhide HY5, unhide HY6, unhide HY7]; exact unhide HMM⟩
              exact ⟨h, (ref_of_get (unhide H8) h).2⟩)
            have hs : ((strOf m).toList == (strOf m).toList) = true := by simp
            obtain ⟨E, hE⟩ : ∃ E : Array Value, ([.int .i64 y0, .int .i64 y1, .int .i64 y2, .int .i64 y3, .int .i64 y4, .int .i64 y5, .int .i64 y6, .int .i64 y7, .slice ae en ce] : List Value).toArray = E := ⟨_, rfl⟩
            have HE1 := hide ((unhide HMp).arr hE)
            have HEZ9 : Hid (E.size = 9) := hide (by rw [← hE]; rfl)
            have HEO : Hid (E.all (·.oneCell') = true) := hide (by rw [← hE]; simp only [List.all_toArray, List.all_cons, List.all_nil, Bool.and_true]; rfl)
            have HEE := hide hE
            clear hE
            go_wp2_with (first
              | (refine wpList_load_row rfl 25 _ rfl gM (by kernel_rfl) 25 E (0, 0) _ (unhide HE1) Tryd.underlying25 rfl (by rw [z25, unhide HEZ9]) ?_)
              | (refine wpList_store_row rfl 25 _ _ rfl w.heap.size E (by kernel_rfl) (by kernel_rfl) 25 Z (unhide HE2) (by rw [z25, unhide HEZ9]) (by rw [unhide HEZ9, unhide HZS]) (unhide HEO) ?_))
            refine bodyPost_ret (results_row_tmp Tryd.results19 _ _ w.heap.size 25 E (0, 0) _ rfl (setRow_heap _ _ _ _ _ _ (unhide HE2)) Tryd.underlying25 rfl (by rw [z25, unhide HEZ9])) rfl ?_
            have hbf : Below w.heap.size w (wp.setRow w.heap.size E) := Below.trans (unhide HBp) ⟨rfl, rfl, rfl, by simp [World.setRow], fun k hk => setRow_other _ _ _ _ (by omega)⟩
            refine ⟨hbf, fun _ => ⟨ae, ce, ?_, ?_⟩, fun h => absurd (unhide HOK).1 h⟩
            · rw [← unhide HEE, unhide HY0, unhide HY1, unhide HY2, unhide HY3, unhide HY4, unhide HY5, unhide HY6, unhide HY7, ← (unhide HOK).2, unhide HEN]
              rfl
            · rw [← (unhide HOK).2]
              exact pts_set (unhide HPp) (unhide HGP)
          · have hs : ((strOf m).toList == (strOf l).toList) = false := strOf_ne (unhide H8m) (unhide H8) hq
            have HNO : Hid (¬ GetOk l) := hide (fun h => by
              have h2 := (ref_of_get (unhide H8) h).1
              have h3 := h2.2.2; rw [unhide HY0, unhide HY1, unhide HY2, unhide HY3, unhide HY4, unhide HY5, unhide HY6, unhide HY7, unhide HMM] at h3; exact hq h3)
            go_wp2_with (first
              | (refine wpList_store_row rfl 25 _ _ rfl w.heap.size Z (by kernel_rfl) (by rw [← unhide HZZ]; rfl) 25 Z (unhide HE2) (by rw [z25, unhide HZS]) rfl (unhide HZO) ?_))
            refine bodyPost_ret (results_row_tmp Tryd.results19 _ _ w.heap.size 25 Z (0, 0) _ rfl (setRow_heap _ _ _ _ _ _ (unhide HE2)) Tryd.underlying25 rfl (by rw [z25, unhide HZS])) rfl ?_
            have hbf : Below w.heap.size w (wp.setRow w.heap.size Z) := Below.trans (unhide HBp) ⟨rfl, rfl, rfl, by simp [World.setRow], fun k hk => setRow_other _ _ _ _ (by omega)⟩
            exact ⟨hbf, fun h => absurd h (unhide HNO), fun _ => by rw [← unhide HZZ]; rfl⟩
        · have hzb : (ez != 0) = true := by simp [hz]
          have HNO : Hid (¬ GetOk l) := hide (fun h => by
            have h2 := (ref_of_get (unhide H8) h).1
            exact hz (by rw [← unhide HEZ]; exact h2.1))
          go_wp2_with (first
            | (refine wpList_store_row rfl 25 _ _ rfl w.heap.size Z (by kernel_rfl) (by rw [← unhide HZZ]; rfl) 25 Z (unhide HE2) (by rw [z25, unhide HZS]) rfl (unhide HZO) ?_))
          refine bodyPost_ret (results_row_tmp Tryd.results19 _ _ w.heap.size 25 Z (0, 0) _ rfl (setRow_heap _ _ _ _ _ _ (unhide HE2)) Tryd.underlying25 rfl (by rw [z25, unhide HZS])) rfl ?_
          have hbf : Below w.heap.size w (wp.setRow w.heap.size Z) := Below.trans (unhide HBp) ⟨rfl, rfl, rfl, by simp [World.setRow], fun k hk => setRow_other _ _ _ _ (by omega)⟩
          exact ⟨hbf, fun h => absurd h (unhide HNO), fun _ => by rw [← unhide HZZ]; rfl⟩
      · have hr := hno hm
        subst hr
        have HM := hide hm
        clear hok hno hm
        by_cases hz : ez = 0
        · subst hz
          have HNO : Hid (¬ GetOk l) := hide (fun h => by
            have h2 := (ref_of_get (unhide H8) h).1
            have h3 := h2.2.1; rw [unhide HY0, unhide HY1, unhide HY2, unhide HY3, unhide HY4, unhide HY5, unhide HY6, unhide HY7] at h3; exact unhide HM h3)
          go_wp2_with (first
            | (refine wpList_store_row rfl 25 _ _ rfl w.heap.size Z (by kernel_rfl) (by rw [← unhide HZZ]; rfl) 25 Z (unhide HE2) (by rw [z25, unhide HZS]) rfl (unhide HZO) ?_))
          refine bodyPost_ret (results_row_tmp Tryd.results19 _ _ w.heap.size 25 Z (0, 0) _ rfl (setRow_heap _ _ _ _ _ _ (unhide HE2)) Tryd.underlying25 rfl (by rw [z25, unhide HZS])) rfl ?_
          have hbf : Below w.heap.size w (wp.setRow w.heap.size Z) := Below.trans (unhide HBp) ⟨rfl, rfl, rfl, by simp [World.setRow], fun k hk => setRow_other _ _ _ _ (by omega)⟩
          exact ⟨hbf, fun h => absurd h (unhide HNO), fun _ => by rw [← unhide HZZ]; rfl⟩
        · have hzb : (ez != 0) = true := by simp [hz]
          have HNO : Hid (¬ GetOk l) := hide (fun h => by
            have h2 := (ref_of_get (unhide H8) h).1
            exact hz (by rw [← unhide HEZ]; exact h2.1))
          go_wp2_with (first
            | (refine wpList_store_row rfl 25 _ _ rfl w.heap.size Z (by kernel_rfl) (by rw [← unhide HZZ]; rfl) 25 Z (unhide HE2) (by rw [z25, unhide HZS]) rfl (unhide HZO) ?_))
          refine bodyPost_ret (results_row_tmp Tryd.results19 _ _ w.heap.size 25 Z (0, 0) _ rfl (setRow_heap _ _ _ _ _ _ (unhide HE2)) Tryd.underlying25 rfl (by rw [z25, unhide HZS])) rfl ?_
          have hbf : Below w.heap.size w (wp.setRow w.heap.size Z) := Below.trans (unhide HBp) ⟨rfl, rfl, rfl, by simp [World.setRow], fun k hk => setRow_other _ _ _ _ (by omega)⟩
          exact ⟨hbf, fun h => absurd h (unhide HNO), fun _ => by rw [← unhide HZZ]; rfl⟩
end Go.Proofs.YtbnfilhilgjnfaaDoor
