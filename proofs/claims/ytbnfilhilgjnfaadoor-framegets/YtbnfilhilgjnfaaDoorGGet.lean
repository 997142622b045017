/- The message that bytes are: the program's answer. -/
import Derived.Test.YtbnfilhilgjnfaaDoorGEd
namespace Go.Proofs.YtbnfilhilgjnfaaDoor
set_option linter.unusedVariables false
set_option linter.unusedSimpArgs false
set_option maxRecDepth 100000
open Go.ChangeShapes Go.WideShapes Go.ChangeAt Go.RowKit Go.Joins

/-- where a reader stands behind so many numbers -/
def nSt (l : List Nat) : Nat → Nat × Int
  | 0 => (0, 0)
  | i + 1 => (Oc.numR l (nSt l i).1 (nSt l i).2).2
def nVal (l : List Nat) (i : Nat) : Int := (Oc.numR l (nSt l i).1 (nSt l i).2).1
theorem num_at (l : List Nat) (i : Nat) (g : Nat) (a : Option Addr) (n cap : Nat) (w : World) (hS : Oc.RdS w g a n cap l (nSt l i).1 (nSt l i).2) :
    Calls Tryd.prog 37 #[.pointer (some ⟨g, 0, none⟩)] w fun r w' => r = .returned (.int .i64 (nVal l i)) ∧ Oc.RdS w' g a n cap l (nSt l (i + 1)).1 (nSt l (i + 1)).2 ∧ Oc.Stp w w' g := Oc.number_tot g a n cap l _ _ w hS
def gEd (l : List Nat) : List Ed.Pt := (editR l (nSt l 8).1 (nSt l 8).2).1
def gFin (l : List Nat) : Nat × Int := (editR l (nSt l 8).1 (nSt l 8).2).2
def GetOk (l : List Nat) : Prop := Oc.endE l.length (gFin l).1 (gFin l).2 = 0 ∧ MsgOk (nVal l 0) (nsF (nVal l 1) (nVal l 2) (nVal l 3) (nVal l 4) (nVal l 5) (nVal l 6) (nVal l 7)) (gEd l)
def GtR (l : List Nat) (w : World) (r : Ending) (w' : World) : Prop := Below w.heap.size w w' ∧ (GetOk l → ∃ a c, r = .returned (.tuple #[msgV (nVal l 0) (nVal l 1) (nVal l 2) (nVal l 3) (nVal l 4) (nVal l 5) (nVal l 6) (nVal l 7) (.slice a (gEd l).length c), .int .i64 0]) ∧ Ed.PtsAt w' a (gEd l)) ∧ (¬ GetOk l → r = .returned (.tuple #[msgV 0 0 0 0 0 0 0 0 (.slice none 0 0), .int .i64 120]))
theorem bodyT_size (l : List Nat) (k : Nat) : (Oc.bodyT l k).size ≤ l.length := by
  unfold Oc.bodyT
  rw [Oc.strOf_size, List.length_take, List.length_drop]
  omega
theorem textR_size (l : List Nat) (q k : Nat) (e : Int) : (Oc.textR l q k e).1.size ≤ l.length := by
  unfold Oc.textR
  repeat' split
  all_goals first | exact Nat.zero_le _ | exact bodyT_size l k
theorem partsR_size (l : List Nat) (k : Nat) (e : Int) (m : Nat) : ∀ p ∈ (partsR l k e m).1, p.text.size ≤ l.length := by
  induction m with
  | zero => intro p hp; cases hp
  | succ m ih =>
    intro p hp
    rcases List.mem_append.1 (show p ∈ (partsR l k e m).1 ++ [(partR l (partsR l k e m).2.1 (partsR l k e m).2.2).1] from hp) with h | h
    · exact ih p h
    · obtain rfl := List.mem_singleton.1 h
      exact textR_size l 256 _ _
theorem gEd_size (l : List Nat) : ∀ p ∈ gEd l, p.text.size ≤ l.length := partsR_size l _ _ _
theorem gEd_len (l : List Nat) : (gEd l).length ≤ 400 := by
  unfold gEd editR
  rw [partsR_len]
  have := winR_bound l (nSt l 8).1 (nSt l 8).2
  omega
theorem utabs_here {w : World} (h : GLay w) : Lib.Utf8Tabs 2 3 w := by
  have q := h.2.2
  unfold Ed.UT at q
  rw [show Ed.Tryd.lays196_ren.g 3 = 2 by kernel_rfl, show Ed.Tryd.lays196_ren.g 4 = 3 by kernel_rfl] at q
  exact q
theorem pts_set {w : World} {a : Option Addr} {l : List Ed.Pt} {g : Nat} {E : Array Value} (h : Ed.PtsAt w a l) (hg : ∀ b off, a = some ⟨b, off, none⟩ → g < b) : Ed.PtsAt (w.setRow g E) a l := by
  rcases h with h | ⟨b, off, rfl, hlt, hc⟩
  · exact .inl h
  · have hne : b ≠ g := by have := hg b off rfl; omega
    have hbl : (w.setRow g E).heap[b]? = w.heap[b]? := setRow_other _ _ _ _ hne
    refine .inr ⟨b, off, rfl, by simpa [World.setRow] using hlt, fun i p hp => ?_⟩
    obtain ⟨q0, q1, q2⟩ := hc i p hp
    exact ⟨by rw [World.cell?_of_block (w := w) (a := ⟨b, _, none⟩) hbl]; exact q0, by rw [World.cell?_of_block (w := w) (a := ⟨b, _, none⟩) hbl]; exact q1, by rw [World.cell?_of_block (w := w) (a := ⟨b, _, none⟩) hbl]; exact q2⟩
theorem z25 : (Tryd.prog.info? 25).map (·.size) = some 9 := by kernel_rfl
theorem GLay.seven {w : World} (h : GLay w) : 7 ≤ w.heap.size := h.1.1.1.2.lt
set_option maxHeartbeats 8000000 in
theorem get_any (v : Value) (l : List Nat) (w : World) (hL : GLay w) (hv : Byt w v l) (h8 : U8 l) (hl : l.length ≤ 100000000) :
    Calls Tryd.prog 18 #[v] w fun r w' => GtR l w r w' := by
  have h7 := hL.seven
  have b0 : Below w.heap.size w (w.alloc (.cells #[.int .i64 0, .int .i64 0, .int .i64 0, .int .i64 0, .int .i64 0, .int .i64 0, .int .i64 0, .int .i64 0, .slice none 0 0] 25)) := (Below.refl _ _).alloc (Nat.le_refl _) _
  have HRD := hide (Oc.read_any v l (w.alloc (.cells #[.int .i64 0, .int .i64 0, .int .i64 0, .int .i64 0, .int .i64 0, .int .i64 0, .int .i64 0, .int .i64 0, .slice none 0 0] 25)) (hv.call b0) (by omega))
  have HRZ := hide (RowAt.new w 25 [.int .i64 0, .int .i64 0, .int .i64 0, .int .i64 0, .int .i64 0, .int .i64 0, .int .i64 0, .int .i64 0, .slice none 0 0])
  have HB0 := hide b0
  have HL := hide hL
  have H8 := hide h8
  have HS0 : Hid ((w.alloc (.cells #[.int .i64 0, .int .i64 0, .int .i64 0, .int .i64 0, .int .i64 0, .int .i64 0, .int .i64 0, .int .i64 0, .slice none 0 0] 25)).heap.size = w.heap.size + 1) := hide (by simp)
  clear b0 hL hv h8
  go_enter Tryd.func18, Tryd.ntmps18
  go_wp2_with fail
  generalize w.alloc (.cells #[.int .i64 0, .int .i64 0, .int .i64 0, .int .i64 0, .int .i64 0, .int .i64 0, .int .i64 0, .int .i64 0, .slice none 0 0] 25) = wZ at *
  refine Calls.mono (unhide HRD) ?_
  rintro r w0 ⟨v0, g, rfl, hg, rd0, by0, lw0, bl0⟩
  obtain ⟨a, cap, rfl⟩ := Oc.byt_shape by0
  obtain ⟨n, hn⟩ : ∃ n, l.length = n := ⟨_, rfl⟩
  have HN := hide hn
  rw [hn] at rd0 by0 lw0
  have hgb : w.heap.size < g := by have := unhide HS0; omega
  have HGB := hide hgb
  have HS_0 : Hid (Oc.RdS w0 g a n cap l (nSt l 0).1 (nSt l 0).2) := hide ⟨by0, rd0, lw0, by omega, Nat.zero_le _, unhide H8⟩
  have HB_0 : Hid (Below w.heap.size w w0) := hide ((unhide HB0).trans (bl0.mono (unhide HB0).size))
  have HR_0 := hide ((unhide HRZ).below bl0 (unhide HRZ).lt)
  clear rd0 by0 lw0 bl0 hg hn HRD
  go_wp2_with fail
  refine Calls.mono (num_at l 0 g a n cap w0 (unhide HS_0)) ?_
  rintro r w1 ⟨rfl, s1, t1⟩
  have HS_1 := hide s1
  have HB_1 := hide ((unhide HB_0).trans (t1.low.mono (Nat.le_of_lt (unhide HGB))))
  have HR_1 := hide ((unhide HR_0).below t1.low (unhide HGB))
  obtain ⟨y0, hy0⟩ : ∃ z, nVal l 0 = z := ⟨_, rfl⟩
  rw [hy0]
  have HY0 := hide hy0
  clear s1 t1 hy0 HS_0 HB_0 HR_0
  go_wp2_with fail
  refine Calls.mono (num_at l 1 g a n cap w1 (unhide HS_1)) ?_
  rintro r w2 ⟨rfl, s2, t2⟩
  have HS_2 := hide s2
  have HB_2 := hide ((unhide HB_1).trans (t2.low.mono (Nat.le_of_lt (unhide HGB))))
  have HR_2 := hide ((unhide HR_1).below t2.low (unhide HGB))
  obtain ⟨y1, hy1⟩ : ∃ z, nVal l 1 = z := ⟨_, rfl⟩
  rw [hy1]
  have HY1 := hide hy1
  clear s2 t2 hy1 HS_1 HB_1 HR_1
  go_wp2_with fail
  refine Calls.mono (num_at l 2 g a n cap w2 (unhide HS_2)) ?_
  rintro r w3 ⟨rfl, s3, t3⟩
  have HS_3 := hide s3
  have HB_3 := hide ((unhide HB_2).trans (t3.low.mono (Nat.le_of_lt (unhide HGB))))
  have HR_3 := hide ((unhide HR_2).below t3.low (unhide HGB))
  obtain ⟨y2, hy2⟩ : ∃ z, nVal l 2 = z := ⟨_, rfl⟩
  rw [hy2]
  have HY2 := hide hy2
  clear s3 t3 hy2 HS_2 HB_2 HR_2
  go_wp2_with fail
  refine Calls.mono (num_at l 3 g a n cap w3 (unhide HS_3)) ?_
  rintro r w4 ⟨rfl, s4, t4⟩
  have HS_4 := hide s4
  have HB_4 := hide ((unhide HB_3).trans (t4.low.mono (Nat.le_of_lt (unhide HGB))))
  have HR_4 := hide ((unhide HR_3).below t4.low (unhide HGB))
  obtain ⟨y3, hy3⟩ : ∃ z, nVal l 3 = z := ⟨_, rfl⟩
  rw [hy3]
  have HY3 := hide hy3
  clear s4 t4 hy3 HS_3 HB_3 HR_3
  go_wp2_with fail
  refine Calls.mono (num_at l 4 g a n cap w4 (unhide HS_4)) ?_
  rintro r w5 ⟨rfl, s5, t5⟩
  have HS_5 := hide s5
  have HB_5 := hide ((unhide HB_4).trans (t5.low.mono (Nat.le_of_lt (unhide HGB))))
  have HR_5 := hide ((unhide HR_4).below t5.low (unhide HGB))
  obtain ⟨y4, hy4⟩ : ∃ z, nVal l 4 = z := ⟨_, rfl⟩
  rw [hy4]
  have HY4 := hide hy4
  clear s5 t5 hy4 HS_4 HB_4 HR_4
  go_wp2_with fail
  refine Calls.mono (num_at l 5 g a n cap w5 (unhide HS_5)) ?_
  rintro r w6 ⟨rfl, s6, t6⟩
  have HS_6 := hide s6
  have HB_6 := hide ((unhide HB_5).trans (t6.low.mono (Nat.le_of_lt (unhide HGB))))
  have HR_6 := hide ((unhide HR_5).below t6.low (unhide HGB))
  obtain ⟨y5, hy5⟩ : ∃ z, nVal l 5 = z := ⟨_, rfl⟩
  rw [hy5]
  have HY5 := hide hy5
  clear s6 t6 hy5 HS_5 HB_5 HR_5
  go_wp2_with fail
  refine Calls.mono (num_at l 6 g a n cap w6 (unhide HS_6)) ?_
  rintro r w7 ⟨rfl, s7, t7⟩
  have HS_7 := hide s7
  have HB_7 := hide ((unhide HB_6).trans (t7.low.mono (Nat.le_of_lt (unhide HGB))))
  have HR_7 := hide ((unhide HR_6).below t7.low (unhide HGB))
  obtain ⟨y6, hy6⟩ : ∃ z, nVal l 6 = z := ⟨_, rfl⟩
  rw [hy6]
  have HY6 := hide hy6
  clear s7 t7 hy6 HS_6 HB_6 HR_6
  go_wp2_with fail
  refine Calls.mono (num_at l 7 g a n cap w7 (unhide HS_7)) ?_
  rintro r w8 ⟨rfl, s8, t8⟩
  have HS_8 := hide s8
  have HB_8 := hide ((unhide HB_7).trans (t8.low.mono (Nat.le_of_lt (unhide HGB))))
  have HR_8 := hide ((unhide HR_7).below t8.low (unhide HGB))
  obtain ⟨y7, hy7⟩ : ∃ z, nVal l 7 = z := ⟨_, rfl⟩
  rw [hy7]
  have HY7 := hide hy7
  clear s8 t8 hy7 HS_7 HB_7 HR_7
  go_wp2_with fail
  refine Calls.mono (readEdit_any g a n cap l _ _ w8 (utabs_here ((unhide HL).below (unhide HB_8))) (by omega) (unhide HS_8)) ?_
  rintro r w9 ⟨ve, rfl, oe, se, te⟩
  obtain ⟨ae, ce, rfl, pe, _, _⟩ := oe.slice
  have HPE : Hid (Ed.PtsAt w9 ae (gEd l)) := hide pe
  have HGP : Hid (∀ b off, ae = some ⟨b, off, none⟩ → w.heap.size < b) := hide (fun b off e => by
    rcases oe.2 with ⟨e2, _⟩ | ⟨g', c', cur, e2, hb, _⟩
    · injection e2 with e3 _ _; rw [e] at e3; cases e3
    · injection e2 with e3 _ _; rw [e] at e3; cases e3; exact Nat.lt_of_lt_of_le (unhide HR_8).lt hb)
  have HSE : Hid (Oc.RdS w9 g a n cap l (gFin l).1 (gFin l).2) := hide se
  have HB_9 := hide ((unhide HB_8).trans (te.low.mono (Nat.le_of_lt (unhide HGB))))
  have HR_9 := hide ((unhide HR_8).below te.low (unhide HGB))
  have HEL := hide (gEd_len l)
  have HES := hide (gEd_size l)
  rw [show (editR l (nSt l 8).1 (nSt l 8).2).1 = gEd l from rfl]
  obtain ⟨en, hen⟩ : ∃ z, (gEd l).length = z := ⟨_, rfl⟩
  rw [hen] at HEL ⊢
  have HEN := hide hen
  clear oe pe se te hen HS_8 HB_8 HR_8
  have b10 : Below w9.heap.size w9 (w9.alloc (.cells #[.int .i64 y0, .int .i64 y1, .int .i64 y2, .int .i64 y3, .int .i64 y4, .int .i64 y5, .int .i64 y6, .int .i64 y7, .slice ae en ce] 25)) := (Below.refl _ _).alloc (Nat.le_refl _) _
  have HF := hide (RowAt.new w9 25 [.int .i64 y0, .int .i64 y1, .int .i64 y2, .int .i64 y3, .int .i64 y4, .int .i64 y5, .int .i64 y6, .int .i64 y7, .slice ae en ce])
  have HB_10 := hide ((unhide HB_9).trans (b10.mono (unhide HB_9).size))
  have HR_10 := hide ((unhide HR_9).below b10 (unhide HR_9).lt)
  have HSX := hide ((unhide HSE).call b10)
  have HPX := hide ((unhide HPE).call b10)
  have HGF : Hid (w.heap.size < w9.heap.size) := hide (unhide HR_9).lt
  clear b10 HSE HPE HB_9 HR_9
  go_wp2_with fail
  obtain ⟨gf, hgf⟩ : ∃ z, w9.heap.size = z := ⟨_, rfl⟩
  rw [hgf] at HF HGF
  try rw [hgf]
  generalize w9.alloc (.cells #[.int .i64 y0, .int .i64 y1, .int .i64 y2, .int .i64 y3, .int .i64 y4, .int .i64 y5, .int .i64 y6, .int .i64 y7, .slice ae en ce] 25) = w10 at *
  clear hgf
  refine Calls.mono (Oc.end_tot g a n cap l _ _ w10 (unhide HSX)) ?_
  rintro r w11 ⟨rfl, dq, rfl⟩
  have b11 : Below w10.heap.size w10 (w10.drewN dq) := Joins.below_draws _ _ dq
  have HB_11 := hide ((unhide HB_10).trans (b11.mono (unhide HB_10).size))
  have HR_11 := hide ((unhide HR_10).below b11 (unhide HR_10).lt)
  have HF11 := hide ((unhide HF).below b11 (unhide HF).lt)
  have HP11 := hide ((unhide HPX).call b11)
  generalize w10.drewN dq = w11 at *
  clear b11 HB_10 HR_10 HF HPX HSX
  obtain ⟨ez, hez⟩ : ∃ z, Oc.endE n (gFin l).1 (gFin l).2 = z := ⟨_, rfl⟩
  rw [hez]
  have HEZ : Hid (Oc.endE l.length (gFin l).1 (gFin l).2 = ez) := hide (by rw [unhide HN]; exact hez)
  clear hez
  obtain ⟨Z, hZ⟩ : ∃ E : Array Value, ([.int .i64 0, .int .i64 0, .int .i64 0, .int .i64 0, .int .i64 0, .int .i64 0, .int .i64 0, .int .i64 0, .slice none 0 0] : List Value).toArray = E := ⟨_, rfl⟩
  have HZZ := hide hZ
  have HZS : Hid (Z.size = 9) := hide (by rw [← hZ]; rfl)
  have HZO : Hid (Z.all (·.oneCell') = true) := hide (by rw [← hZ]; simp only [List.all_toArray, List.all_cons, List.all_nil, Bool.and_true]; rfl)
  by_cases hz0 : ez = 0
  · subst hz0
    have hzb : ((0 : Int) != 0) = false := rfl
    have HCK := hide (check_any y0 y1 y2 y3 y4 y5 y6 y7 ae (gEd l) ce w11 ((unhide HL).below (unhide HB_11)).1.2 ((unhide HL).below (unhide HB_11)).2.1 ((unhide HL).below (unhide HB_11)).2.2 (unhide HP11) (by rw [unhide HEN]; have := unhide HEL; omega) (fun p hp => by have := unhide HES p hp; have := unhide HN; omega))
    rw [unhide HEN] at HCK
    unfold msgV at HCK
    have c0 : w11.cell? ⟨gf, 0, none⟩ = some (.int .i64 y0) := (unhide HF11).cell 0
    have c1 : w11.cell? ⟨gf, 1, none⟩ = some (.int .i64 y1) := (unhide HF11).cell 1
    have c2 : w11.cell? ⟨gf, 2, none⟩ = some (.int .i64 y2) := (unhide HF11).cell 2
    have c3 : w11.cell? ⟨gf, 3, none⟩ = some (.int .i64 y3) := (unhide HF11).cell 3
    have c4 : w11.cell? ⟨gf, 4, none⟩ = some (.int .i64 y4) := (unhide HF11).cell 4
    have c5 : w11.cell? ⟨gf, 5, none⟩ = some (.int .i64 y5) := (unhide HF11).cell 5
    have c6 : w11.cell? ⟨gf, 6, none⟩ = some (.int .i64 y6) := (unhide HF11).cell 6
    have c7 : w11.cell? ⟨gf, 7, none⟩ = some (.int .i64 y7) := (unhide HF11).cell 7
    have c8 : w11.cell? ⟨gf, 8, none⟩ = some (.slice ae en ce) := (unhide HF11).cell 8
    go_wp2_with fail
    refine Calls.mono (unhide HCK) ?_
    rintro r w12 ⟨zc, rfl, hzc, hiff, b12⟩
    have HB_12 := hide ((unhide HB_11).trans (b12.mono (unhide HB_11).size))
    have HR_12 := hide ((unhide HR_11).below b12 (unhide HR_11).lt)
    have HF12 := hide ((unhide HF11).below b12 (unhide HF11).lt)
    have HP12 := hide ((unhide HP11).call b12)
    have HIF := hide hiff
    clear b12 hiff HB_11 HR_11 HF11 HP11 HCK c0 c1 c2 c3 c4 c5 c6 c7 c8
    rcases hzc with rfl | rfl
    · have HOK : Hid (GetOk l) := hide ⟨unhide HEZ, by rw [unhide HY0, unhide HY1, unhide HY2, unhide HY3, unhide HY4, unhide HY5, unhide HY6, unhide HY7]; exact (unhide HIF).1 rfl⟩
      obtain ⟨E, hE⟩ : ∃ E : Array Value, ([.int .i64 y0, .int .i64 y1, .int .i64 y2, .int .i64 y3, .int .i64 y4, .int .i64 y5, .int .i64 y6, .int .i64 y7, .slice ae en ce] : List Value).toArray = E := ⟨_, rfl⟩
      have HE1 := hide ((unhide HF12).arr hE)
      have HE2 := hide ((unhide HR_12).arr hZ)
      have HEZ9 : Hid (E.size = 9) := hide (by rw [← hE]; rfl)
      have HEO : Hid (E.all (·.oneCell') = true) := hide (by rw [← hE]; simp only [List.all_toArray, List.all_cons, List.all_nil, Bool.and_true]; rfl)
      have HEE := hide hE
      clear hE hZ
      go_wp2_with (first
        | (refine wpList_load_row rfl 25 _ rfl gf (by kernel_rfl) 25 E (0, 0) _ (unhide HE1) Tryd.underlying25 rfl (by rw [z25, unhide HEZ9]) ?_)
        | (refine wpList_store_row rfl 25 _ _ rfl w.heap.size E (by kernel_rfl) (by kernel_rfl) 25 Z (unhide HE2) (by rw [z25, unhide HEZ9]) (by rw [unhide HEZ9, unhide HZS]) (unhide HEO) ?_))
      refine bodyPost_ret (results_row_tmp Tryd.results18 _ _ w.heap.size 25 E (0, 0) _ rfl (setRow_heap _ _ _ _ _ _ (unhide HE2)) Tryd.underlying25 rfl (by rw [z25, unhide HEZ9])) rfl ?_
      have hbf : Below w.heap.size w (w12.setRow w.heap.size E) := Below.trans (unhide HB_12) ⟨rfl, rfl, rfl, by simp [World.setRow], fun k hk => setRow_other _ _ _ _ (by omega)⟩
      refine ⟨hbf, fun _ => ⟨ae, ce, ?_, ?_⟩, fun h => absurd (unhide HOK) h⟩
      · rw [← unhide HEE, unhide HY0, unhide HY1, unhide HY2, unhide HY3, unhide HY4, unhide HY5, unhide HY6, unhide HY7, unhide HEN]
        rfl
      · exact pts_set (unhide HP12) (unhide HGP)
    · have HNO : Hid (¬ GetOk l) := hide (fun h => by
        have h2 := h.2
        rw [unhide HY0, unhide HY1, unhide HY2, unhide HY3, unhide HY4, unhide HY5, unhide HY6, unhide HY7] at h2
        have := (unhide HIF).2 h2
        omega)
      have HE2 := hide ((unhide HR_12).arr hZ)
      clear hZ
      go_wp2_with (first
        | (refine wpList_store_row rfl 25 _ _ rfl w.heap.size Z (by kernel_rfl) (by rw [← unhide HZZ]; rfl) 25 Z (unhide HE2) (by rw [z25, unhide HZS]) rfl (unhide HZO) ?_))
      refine bodyPost_ret (results_row_tmp Tryd.results18 _ _ w.heap.size 25 Z (0, 0) _ rfl (setRow_heap _ _ _ _ _ _ (unhide HE2)) Tryd.underlying25 rfl (by rw [z25, unhide HZS])) rfl ?_
      have hbf : Below w.heap.size w (w12.setRow w.heap.size Z) := Below.trans (unhide HB_12) ⟨rfl, rfl, rfl, by simp [World.setRow], fun k hk => setRow_other _ _ _ _ (by omega)⟩
      exact ⟨hbf, fun h => absurd h (unhide HNO), fun _ => by rw [← unhide HZZ]; rfl⟩
  · have hzb : (ez != 0) = true := by simp [hz0]
    have HNO : Hid (¬ GetOk l) := hide (fun h => hz0 (by rw [← unhide HEZ]; exact h.1))
    have HE2 := hide ((unhide HR_11).arr hZ)
    clear hZ
    go_wp2_with (first
      | (refine wpList_store_row rfl 25 _ _ rfl w.heap.size Z (by kernel_rfl) (by rw [← unhide HZZ]; rfl) 25 Z (unhide HE2) (by rw [z25, unhide HZS]) rfl (unhide HZO) ?_))
    refine bodyPost_ret (results_row_tmp Tryd.results18 _ _ w.heap.size 25 Z (0, 0) _ rfl (setRow_heap _ _ _ _ _ _ (unhide HE2)) Tryd.underlying25 rfl (by rw [z25, unhide HZS])) rfl ?_
    have hbf : Below w.heap.size w (w11.setRow w.heap.size Z) := Below.trans (unhide HB_11) ⟨rfl, rfl, rfl, by simp [World.setRow], fun k hk => setRow_other _ _ _ _ (by omega)⟩
    exact ⟨hbf, fun h => absurd h (unhide HNO), fun _ => by rw [← unhide HZZ]; rfl⟩
end Go.Proofs.YtbnfilhilgjnfaaDoor
