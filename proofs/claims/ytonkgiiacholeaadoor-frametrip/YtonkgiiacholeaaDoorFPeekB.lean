/- What bytes show without a key, where they show nothing. -/
import Derived.Test.YtonkgiiacholeaaDoorFLaid
import Derived.Test.YtonkgiiacholeaaDoorOBad
namespace Go.Proofs.YtonkgiiacholeaaDoor
set_option linter.unusedVariables false
set_option linter.unusedSimpArgs false
open Go.ChangeShapes Go.WideShapes Go.ChangeAt Go.RowKit Go.Joins

theorem one37' (c s k : Int) : (([.int .i64 c, .int .i64 s, .int .i64 k, .slice none 0 0] : List Value).toArray).all (·.oneCell') = true := by
  simp only [List.all_toArray, List.all_cons, List.all_nil, Bool.and_true]; rfl
theorem byt_upto {w : World} {a : Option Addr} {n cap : Nat} {l : List Nat} (h : Byt w (.slice a n cap) l) (hn : l.length = n) (m : Nat) : Byt w (.slice a (min n m) cap) (l.take m) := by
  rcases h with ⟨e, rfl⟩ | ⟨a', c', e, h1, h2, h3⟩
  · injection e with e1 e2 e3
    subst e1 e3
    simp at hn
    subst hn
    exact .inl ⟨by simp, by simp⟩
  · injection e with e1 e2 e3
    subst e1 e3
    refine .inr ⟨a', cap, by rw [List.length_take, hn, Nat.min_comm], by rw [List.length_take]; omega, h2, fun i y hy => h3 i y ?_⟩
    rw [List.getElem?_take] at hy
    split at hy
    · exact hy
    · cases hy
def pkS (l : List Nat) : Nat := Oct.numOf (((l.take 24).drop 8).take 8)
def PkOk (l : List Nat) (n : Nat) : Prop := Oct.Nx (l.take 24) 0 1 1099511627776 ∧ Oct.Nx (l.take 24) 8 0 1099511627776 ∧ Oct.Nx (l.take 24) 16 0 1099511627776 ∧ 40 ≤ n ∧ n ≤ 16360 ∧ (pkS l = 0 ↔ n = 40)

set_option maxRecDepth 100000 in
set_option maxHeartbeats 8000000 in
theorem peek_bad (a : Option Addr) (n cap : Nat) (l : List Nat) (w : World) (hv : Byt w (.slice a n cap) l) (h8 : U8 l) (hn : l.length = n) (hnb : n ≤ 1000000) (hbad : ¬ PkOk l n) :
    Calls Tryd.prog 17 #[.slice a n cap] w fun e w' => e = .returned (.tuple #[frV 0 0 0 (.slice none 0 0), .int .i64 120]) ∧ Below w.heap.size w w' := by
  have hcap : n ≤ cap := by
    rcases hv with ⟨e, _⟩ | ⟨a', c', e, h1, _⟩
    · injection e with e1 e2 e3; omega
    · injection e with e1 e2 e3; omega
  obtain ⟨mm, hmm⟩ : ∃ x, min n 24 = x := ⟨_, rfl⟩
  have hmn : min (n : Int) 24 = (mm : Int) := by omega
  have hcI : (mm : Int) ≤ (cap : Int) := by omega
  have hmc : mm ≤ cap := by omega
  have hm24 : mm ≤ 24 := by omega
  have b1 : Below w.heap.size w (w.alloc (.cells #[.int .i64 0, .int .i64 0, .int .i64 0, .slice none 0 0] 24)) := (Below.refl _ _).alloc (Nat.le_refl _) _
  have hR := RowAt.new w 24 [.int .i64 0, .int .i64 0, .int .i64 0, .slice none 0 0]
  have HR := hide hR
  have HB1 := hide b1
  have hyt := byt_upto (hv.call b1) hn 24
  rw [hmm] at hyt
  have HRD := hide (Oct.read_any (.slice a mm cap) (l.take 24) (w.alloc (.cells #[.int .i64 0, .int .i64 0, .int .i64 0, .slice none 0 0] 24)) hyt (by rw [List.length_take]; omega))
  have HN24 : Hid ((l.take 24).length = mm) := hide (by rw [List.length_take]; omega)
  have H256 : Hid (∀ y ∈ l.take 24, y < 256) := hide (fun y hy => h8 y (List.mem_of_mem_take hy))
  unfold PkOk pkS at hbad
  generalize l.take 24 = l24 at *
  clear hR b1 hyt hv h8
  by_cases n0 : Oct.Nx l24 0 1 1099511627776
  · have NX0 := hide n0
    by_cases n1 : Oct.Nx l24 8 0 1099511627776
    · have NX1 := hide n1
      by_cases n2 : Oct.Nx l24 16 0 1099511627776
      · have NX2 := hide n2
        have hD : ¬ (40 ≤ n ∧ n ≤ 16360 ∧ (Oct.numOf ((l24.drop 8).take 8) = 0 ↔ n = 40)) := fun h => hbad ⟨n0, n1, n2, h⟩
        have HD := hide hD
        clear hbad hD n0 n1 n2
        obtain ⟨bI, hbI⟩ : ∃ x : Int, (n : Int) - 24 - 16 = x := ⟨_, rfl⟩
        have HBI := hide hbI
        go_enter Tryd.func17, Tryd.ntmps17
        go_wp2_with fail
        generalize w.alloc (.cells #[.int .i64 0, .int .i64 0, .int .i64 0, .slice none 0 0] 24) = w1 at *
        refine Calls.mono (unhide HRD) ?_
        rintro e w2 ⟨v2, g, rfl, hg, r2, y2, low2, b2⟩
        obtain ⟨va, vc, hve⟩ := byt_shape y2
        rw [unhide HN24] at hve
        subst hve
        have HL2 := hide low2
        have HGG : Hid (w.heap.size < g) := hide (by have := (unhide HR).lt; omega)
        have HR2 := hide ((unhide HR).below b2 (unhide HR).lt)
        have HB2 := hide ((unhide HB1).trans (b2.mono (unhide HB1).size))
        clear low2 b2 HRD HR HB1 hg
        have HWX := hide (Oct.Within_any g va mm vc l24 0 1 1099511627776 w2 y2 r2 (unhide HL2) (by omega) (by have := (unhide NX0).1; have := unhide HN24; omega) (unhide H256) _ rfl ⟨(unhide NX0).2.2.1, (unhide NX0).2.2.2⟩ (unhide NX0).2.1)
        obtain ⟨c, hc⟩ : ∃ x, Oct.numOf ((l24.drop 0).take 8) = x := ⟨_, rfl⟩
        rw [hc] at HWX
        have HU0 := hide hc
        have HYX := hide y2
        clear r2 y2 hc
        go_wp2_with fail
        refine Calls.mono (unhide HWX) ?_
        rintro e w3 ⟨rfl, rw3, bw3⟩
        have yw3 := Oct.Byt.low (unhide HYX) bw3 (unhide HL2)
        have HRw3 := hide ((unhide HR2).below bw3 (unhide HGG))
        have HBw3 := hide ((unhide HB2).trans (bw3.mono (Nat.le_of_lt (unhide HGG))))
        clear bw3 HWX HYX HR2 HB2
        have HWX := hide (Oct.Within_any g va mm vc l24 8 0 1099511627776 w3 yw3 rw3 (unhide HL2) (by omega) (by have := (unhide NX1).1; have := unhide HN24; omega) (unhide H256) _ rfl ⟨(unhide NX1).2.2.1, (unhide NX1).2.2.2⟩ (unhide NX1).2.1)
        obtain ⟨s, hs⟩ : ∃ x, Oct.numOf ((l24.drop 8).take 8) = x := ⟨_, rfl⟩
        rw [hs] at HWX
        have HU1 := hide hs
        have HYX := hide yw3
        clear rw3 yw3 hs
        go_wp2_with fail
        refine Calls.mono (unhide HWX) ?_
        rintro e w4 ⟨rfl, rw4, bw4⟩
        have yw4 := Oct.Byt.low (unhide HYX) bw4 (unhide HL2)
        have HRw4 := hide ((unhide HRw3).below bw4 (unhide HGG))
        have HBw4 := hide ((unhide HBw3).trans (bw4.mono (Nat.le_of_lt (unhide HGG))))
        clear bw4 HWX HYX HRw3 HBw3
        have HWX := hide (Oct.Within_any g va mm vc l24 16 0 1099511627776 w4 yw4 rw4 (unhide HL2) (by omega) (by have := (unhide NX2).1; have := unhide HN24; omega) (unhide H256) _ rfl ⟨(unhide NX2).2.2.1, (unhide NX2).2.2.2⟩ (unhide NX2).2.1)
        obtain ⟨k, hk⟩ : ∃ x, Oct.numOf ((l24.drop 16).take 8) = x := ⟨_, rfl⟩
        rw [hk] at HWX
        have HU2 := hide hk
        have HYX := hide yw4
        clear rw4 yw4 hk
        go_wp2_with fail
        refine Calls.mono (unhide HWX) ?_
        rintro e w5 ⟨rfl, rw5, bw5⟩
        have yw5 := Oct.Byt.low (unhide HYX) bw5 (unhide HL2)
        have HRw5 := hide ((unhide HRw4).below bw5 (unhide HGG))
        have HBw5 := hide ((unhide HBw4).trans (bw5.mono (Nat.le_of_lt (unhide HGG))))
        clear bw5 HWX HYX HRw4 HBw4
        clear yw5
        have hg5 : g < w5.heap.size := lt_of_cell rw5.2.1
        have b6 : Below w5.heap.size w5 (w5.alloc (.cells #[.int .i64 (c : Int), .int .i64 (s : Int), .int .i64 (k : Int), .slice none 0 0] 24)) := (Below.refl _ _).alloc (Nat.le_refl _) _
        have HER := hide (Oct.err_any g _ _ 0 _ (rw5.below (b6.mono hg5)))
        have HR7 := hide ((unhide HRw5).below b6 (unhide HRw5).lt)
        have HB7 := hide ((unhide HBw5).trans (b6.mono (by have := unhide HGG; omega)))
        have cz := (RowAt.new w5 24 [.int .i64 (c : Int), .int .i64 (s : Int), .int .i64 (k : Int), .slice none 0 0]).cell 1
        clear rw5 b6 HRw5 HBw5
        go_wp2_with fail
        obtain ⟨gf, hgf⟩ : ∃ x, w5.heap.size = x := ⟨_, rfl⟩
        rw [hgf] at cz
        try rw [hgf]
        generalize w5.alloc (.cells #[.int .i64 (c : Int), .int .i64 (s : Int), .int .i64 (k : Int), .slice none 0 0] 24) = w6 at *
        refine Calls.mono (unhide HER) ?_
        rintro e wx ⟨rfl, rfl⟩
        have HE2 := hide ((unhide HR7).arr rfl)
        clear HER HR7
        have cs : w6.cell? ⟨gf, 1, none⟩ = some (.int .i64 (s : Int)) := cz
        clear cz
        by_cases hw : 0 ≤ bI ∧ bI ≤ 16320
        · have HWI := hide (fun w => within_in bI 0 16320 w hw.1 hw.2)
          obtain ⟨b, hb1, hb2⟩ : ∃ b, ((s : Int) == 0) = b ∧ (bI == 0) = !b := by
            have hd := unhide HD
            have hS := unhide HU1
            rw [hS] at hd
            have hBI := unhide HBI
            by_cases h : s = 0
            · subst h
              refine ⟨true, rfl, ?_⟩
              have : ¬ bI = 0 := by omega
              simp [this]
            · refine ⟨false, by simp [h], ?_⟩
              have : bI = 0 := by omega
              simp [this]
          have hx1 : (b == !b) = false := by cases b <;> rfl
          have hx2 : (b != !b) = true := by cases b <;> rfl
          clear hw
          go_wp2_with fail
          refine Calls.mono (unhide HWI _) ?_
          rintro e wx ⟨rfl, rfl⟩
          go_wp2_with (first
            | (refine wpList_store_row rfl 24 _ _ rfl w.heap.size ([.int .i64 0, .int .i64 0, .int .i64 0, .slice none 0 0] : List Value).toArray rfl rfl 24 ([.int .i64 0, .int .i64 0, .int .i64 0, .slice none 0 0] : List Value).toArray (unhide HE2) z37 rfl (one37' 0 0 0) ?_))
          all_goals (first
            | (exfalso; omega)
            | (refine bodyPost_ret (results_row_tmp Tryd.results17 _ _ w.heap.size 24 ([.int .i64 0, .int .i64 0, .int .i64 0, .slice none 0 0] : List Value).toArray (0, 0) _ rfl (setRow_heap _ _ _ _ _ _ (unhide HE2)) Tryd.underlying24 rfl z37) rfl ⟨rfl, ?_⟩
               exact Below.trans (unhide HB7) ⟨rfl, rfl, rfl, by simp [World.setRow], fun k hk => setRow_other _ _ _ _ (by omega)⟩)
            | (exfalso; simp at *; omega))
        · have HWI := hide (fun w => within_out bI 0 16320 w hw)
          clear hw
          go_wp2_with fail
          refine Calls.mono (unhide HWI _) ?_
          rintro e wx ⟨rfl, rfl⟩
          go_wp2_with (first
            | (refine wpList_store_row rfl 24 _ _ rfl w.heap.size ([.int .i64 0, .int .i64 0, .int .i64 0, .slice none 0 0] : List Value).toArray rfl rfl 24 ([.int .i64 0, .int .i64 0, .int .i64 0, .slice none 0 0] : List Value).toArray (unhide HE2) z37 rfl (one37' 0 0 0) ?_))
          all_goals (first
            | (exfalso; omega)
            | (refine bodyPost_ret (results_row_tmp Tryd.results17 _ _ w.heap.size 24 ([.int .i64 0, .int .i64 0, .int .i64 0, .slice none 0 0] : List Value).toArray (0, 0) _ rfl (setRow_heap _ _ _ _ _ _ (unhide HE2)) Tryd.underlying24 rfl z37) rfl ⟨rfl, ?_⟩
               exact Below.trans (unhide HB7) ⟨rfl, rfl, rfl, by simp [World.setRow], fun k hk => setRow_other _ _ _ _ (by omega)⟩)
            | (exfalso; simp at *; omega))
      · have NX2 := hide n2
        clear hbad n0 n1 n2
        go_enter Tryd.func17, Tryd.ntmps17
        go_wp2_with fail
        generalize w.alloc (.cells #[.int .i64 0, .int .i64 0, .int .i64 0, .slice none 0 0] 24) = w1 at *
        refine Calls.mono (unhide HRD) ?_
        rintro e w2 ⟨v2, g, rfl, hg, r2, y2, low2, b2⟩
        obtain ⟨va, vc, hve⟩ := byt_shape y2
        rw [unhide HN24] at hve
        subst hve
        have HL2 := hide low2
        have HGG : Hid (w.heap.size < g) := hide (by have := (unhide HR).lt; omega)
        have HR2 := hide ((unhide HR).below b2 (unhide HR).lt)
        have HB2 := hide ((unhide HB1).trans (b2.mono (unhide HB1).size))
        clear low2 b2 HRD HR HB1 hg
        have HWX := hide (Oct.Within_any g va mm vc l24 0 1 1099511627776 w2 y2 r2 (unhide HL2) (by omega) (by have := (unhide NX0).1; have := unhide HN24; omega) (unhide H256) _ rfl ⟨(unhide NX0).2.2.1, (unhide NX0).2.2.2⟩ (unhide NX0).2.1)
        obtain ⟨c, hc⟩ : ∃ x, Oct.numOf ((l24.drop 0).take 8) = x := ⟨_, rfl⟩
        rw [hc] at HWX
        have HU0 := hide hc
        have HYX := hide y2
        clear r2 y2 hc
        go_wp2_with fail
        refine Calls.mono (unhide HWX) ?_
        rintro e w3 ⟨rfl, rw3, bw3⟩
        have yw3 := Oct.Byt.low (unhide HYX) bw3 (unhide HL2)
        have HRw3 := hide ((unhide HR2).below bw3 (unhide HGG))
        have HBw3 := hide ((unhide HB2).trans (bw3.mono (Nat.le_of_lt (unhide HGG))))
        clear bw3 HWX HYX HR2 HB2
        have HWX := hide (Oct.Within_any g va mm vc l24 8 0 1099511627776 w3 yw3 rw3 (unhide HL2) (by omega) (by have := (unhide NX1).1; have := unhide HN24; omega) (unhide H256) _ rfl ⟨(unhide NX1).2.2.1, (unhide NX1).2.2.2⟩ (unhide NX1).2.1)
        obtain ⟨s, hs⟩ : ∃ x, Oct.numOf ((l24.drop 8).take 8) = x := ⟨_, rfl⟩
        rw [hs] at HWX
        have HU1 := hide hs
        have HYX := hide yw3
        clear rw3 yw3 hs
        go_wp2_with fail
        refine Calls.mono (unhide HWX) ?_
        rintro e w4 ⟨rfl, rw4, bw4⟩
        have yw4 := Oct.Byt.low (unhide HYX) bw4 (unhide HL2)
        have HRw4 := hide ((unhide HRw3).below bw4 (unhide HGG))
        have HBw4 := hide ((unhide HBw3).trans (bw4.mono (Nat.le_of_lt (unhide HGG))))
        clear bw4 HWX HYX HRw3 HBw3
        have HWX := hide (Oct.Within_bad g va mm vc l24 16 0 1099511627776 w4 yw4 rw4 (unhide HL2) (by omega) (unhide HN24) (by have := (unhide NX1).1; have := unhide HN24; omega) (unhide H256) (unhide NX2))
        clear rw4 yw4
        go_wp2_with fail
        refine Calls.mono (unhide HWX) ?_
        rintro e w5 ⟨e0, rfl, rw5, he0, bw5⟩
        have HRw5 := hide ((unhide HRw4).below bw5 (unhide HGG))
        have HBw5 := hide ((unhide HBw4).trans (bw5.mono (Nat.le_of_lt (unhide HGG))))
        clear bw5 HWX HRw4 HBw4
        have hg5 : g < w5.heap.size := lt_of_cell rw5.2.1
        have b6 : Below w5.heap.size w5 (w5.alloc (.cells #[.int .i64 (c : Int), .int .i64 (s : Int), .int .i64 0, .slice none 0 0] 24)) := (Below.refl _ _).alloc (Nat.le_refl _) _
        have HER := hide (Oct.err_any g _ _ e0 _ (rw5.below (b6.mono hg5)))
        have HR7 := hide ((unhide HRw5).below b6 (unhide HRw5).lt)
        have HB7 := hide ((unhide HBw5).trans (b6.mono (by have := unhide HGG; omega)))
        have cz := (RowAt.new w5 24 [.int .i64 (c : Int), .int .i64 (s : Int), .int .i64 0, .slice none 0 0]).cell 1
        clear rw5 b6 HRw5 HBw5
        go_wp2_with fail
        obtain ⟨gf, hgf⟩ : ∃ x, w5.heap.size = x := ⟨_, rfl⟩
        rw [hgf] at cz
        try rw [hgf]
        generalize w5.alloc (.cells #[.int .i64 (c : Int), .int .i64 (s : Int), .int .i64 0, .slice none 0 0] 24) = w6 at *
        refine Calls.mono (unhide HER) ?_
        rintro e wx ⟨rfl, rfl⟩
        have HE2 := hide ((unhide HR7).arr rfl)
        clear HER HR7
        go_wp2_with (first
          | (refine wpList_store_row rfl 24 _ _ rfl w.heap.size ([.int .i64 0, .int .i64 0, .int .i64 0, .slice none 0 0] : List Value).toArray rfl rfl 24 ([.int .i64 0, .int .i64 0, .int .i64 0, .slice none 0 0] : List Value).toArray (unhide HE2) z37 rfl (one37' 0 0 0) ?_))
        all_goals (first
          | (exfalso; omega)
          | (refine bodyPost_ret (results_row_tmp Tryd.results17 _ _ w.heap.size 24 ([.int .i64 0, .int .i64 0, .int .i64 0, .slice none 0 0] : List Value).toArray (0, 0) _ rfl (setRow_heap _ _ _ _ _ _ (unhide HE2)) Tryd.underlying24 rfl z37) rfl ⟨rfl, ?_⟩
             exact Below.trans (unhide HB7) ⟨rfl, rfl, rfl, by simp [World.setRow], fun k hk => setRow_other _ _ _ _ (by omega)⟩)
          | (exfalso; simp at *; omega))
    · have NX1 := hide n1
      clear hbad n0 n1
      go_enter Tryd.func17, Tryd.ntmps17
      go_wp2_with fail
      generalize w.alloc (.cells #[.int .i64 0, .int .i64 0, .int .i64 0, .slice none 0 0] 24) = w1 at *
      refine Calls.mono (unhide HRD) ?_
      rintro e w2 ⟨v2, g, rfl, hg, r2, y2, low2, b2⟩
      obtain ⟨va, vc, hve⟩ := byt_shape y2
      rw [unhide HN24] at hve
      subst hve
      have HL2 := hide low2
      have HGG : Hid (w.heap.size < g) := hide (by have := (unhide HR).lt; omega)
      have HR2 := hide ((unhide HR).below b2 (unhide HR).lt)
      have HB2 := hide ((unhide HB1).trans (b2.mono (unhide HB1).size))
      clear low2 b2 HRD HR HB1 hg
      have HWX := hide (Oct.Within_any g va mm vc l24 0 1 1099511627776 w2 y2 r2 (unhide HL2) (by omega) (by have := (unhide NX0).1; have := unhide HN24; omega) (unhide H256) _ rfl ⟨(unhide NX0).2.2.1, (unhide NX0).2.2.2⟩ (unhide NX0).2.1)
      obtain ⟨c, hc⟩ : ∃ x, Oct.numOf ((l24.drop 0).take 8) = x := ⟨_, rfl⟩
      rw [hc] at HWX
      have HU0 := hide hc
      have HYX := hide y2
      clear r2 y2 hc
      go_wp2_with fail
      refine Calls.mono (unhide HWX) ?_
      rintro e w3 ⟨rfl, rw3, bw3⟩
      have yw3 := Oct.Byt.low (unhide HYX) bw3 (unhide HL2)
      have HRw3 := hide ((unhide HR2).below bw3 (unhide HGG))
      have HBw3 := hide ((unhide HB2).trans (bw3.mono (Nat.le_of_lt (unhide HGG))))
      clear bw3 HWX HYX HR2 HB2
      have HWX := hide (Oct.Within_bad g va mm vc l24 8 0 1099511627776 w3 yw3 rw3 (unhide HL2) (by omega) (unhide HN24) (by have := (unhide NX0).1; have := unhide HN24; omega) (unhide H256) (unhide NX1))
      clear rw3 yw3
      go_wp2_with fail
      refine Calls.mono (unhide HWX) ?_
      rintro e w4 ⟨e0, rfl, rw4, he0, bw4⟩
      have HRw4 := hide ((unhide HRw3).below bw4 (unhide HGG))
      have HBw4 := hide ((unhide HBw3).trans (bw4.mono (Nat.le_of_lt (unhide HGG))))
      clear bw4 HWX HRw3 HBw3
      have HWX := hide (Oct.Within_err g _ _ e0 0 1099511627776 w4 rw4 he0)
      go_wp2_with fail
      refine Calls.mono (unhide HWX) ?_
      rintro e wx ⟨rfl, rfl⟩
      clear HWX
      have hg5 : g < w4.heap.size := lt_of_cell rw4.2.1
      have b6 : Below w4.heap.size w4 (w4.alloc (.cells #[.int .i64 (c : Int), .int .i64 0, .int .i64 0, .slice none 0 0] 24)) := (Below.refl _ _).alloc (Nat.le_refl _) _
      have HER := hide (Oct.err_any g _ _ e0 _ (rw4.below (b6.mono hg5)))
      have HR7 := hide ((unhide HRw4).below b6 (unhide HRw4).lt)
      have HB7 := hide ((unhide HBw4).trans (b6.mono (by have := unhide HGG; omega)))
      have cz := (RowAt.new w4 24 [.int .i64 (c : Int), .int .i64 0, .int .i64 0, .slice none 0 0]).cell 1
      clear rw4 b6 HRw4 HBw4
      go_wp2_with fail
      obtain ⟨gf, hgf⟩ : ∃ x, w4.heap.size = x := ⟨_, rfl⟩
      rw [hgf] at cz
      try rw [hgf]
      generalize w4.alloc (.cells #[.int .i64 (c : Int), .int .i64 0, .int .i64 0, .slice none 0 0] 24) = w6 at *
      refine Calls.mono (unhide HER) ?_
      rintro e wx ⟨rfl, rfl⟩
      have HE2 := hide ((unhide HR7).arr rfl)
      clear HER HR7
      go_wp2_with (first
        | (refine wpList_store_row rfl 24 _ _ rfl w.heap.size ([.int .i64 0, .int .i64 0, .int .i64 0, .slice none 0 0] : List Value).toArray rfl rfl 24 ([.int .i64 0, .int .i64 0, .int .i64 0, .slice none 0 0] : List Value).toArray (unhide HE2) z37 rfl (one37' 0 0 0) ?_))
      all_goals (first
        | (exfalso; omega)
        | (refine bodyPost_ret (results_row_tmp Tryd.results17 _ _ w.heap.size 24 ([.int .i64 0, .int .i64 0, .int .i64 0, .slice none 0 0] : List Value).toArray (0, 0) _ rfl (setRow_heap _ _ _ _ _ _ (unhide HE2)) Tryd.underlying24 rfl z37) rfl ⟨rfl, ?_⟩
           exact Below.trans (unhide HB7) ⟨rfl, rfl, rfl, by simp [World.setRow], fun k hk => setRow_other _ _ _ _ (by omega)⟩)
        | (exfalso; simp at *; omega))
  · have NX0 := hide n0
    clear hbad n0
    go_enter Tryd.func17, Tryd.ntmps17
    go_wp2_with fail
    generalize w.alloc (.cells #[.int .i64 0, .int .i64 0, .int .i64 0, .slice none 0 0] 24) = w1 at *
    refine Calls.mono (unhide HRD) ?_
    rintro e w2 ⟨v2, g, rfl, hg, r2, y2, low2, b2⟩
    obtain ⟨va, vc, hve⟩ := byt_shape y2
    rw [unhide HN24] at hve
    subst hve
    have HL2 := hide low2
    have HGG : Hid (w.heap.size < g) := hide (by have := (unhide HR).lt; omega)
    have HR2 := hide ((unhide HR).below b2 (unhide HR).lt)
    have HB2 := hide ((unhide HB1).trans (b2.mono (unhide HB1).size))
    clear low2 b2 HRD HR HB1 hg
    have HWX := hide (Oct.Within_bad g va mm vc l24 0 1 1099511627776 w2 y2 r2 (unhide HL2) (by omega) (unhide HN24) (by omega) (unhide H256) (unhide NX0))
    clear r2 y2
    go_wp2_with fail
    refine Calls.mono (unhide HWX) ?_
    rintro e w3 ⟨e0, rfl, rw3, he0, bw3⟩
    have HRw3 := hide ((unhide HR2).below bw3 (unhide HGG))
    have HBw3 := hide ((unhide HB2).trans (bw3.mono (Nat.le_of_lt (unhide HGG))))
    clear bw3 HWX HR2 HB2
    have HWX := hide (Oct.Within_err g _ _ e0 0 1099511627776 w3 rw3 he0)
    go_wp2_with fail
    refine Calls.mono (unhide HWX) ?_
    rintro e wx ⟨rfl, rfl⟩
    clear HWX
    have HWX := hide (Oct.Within_err g _ _ e0 0 1099511627776 w3 rw3 he0)
    go_wp2_with fail
    refine Calls.mono (unhide HWX) ?_
    rintro e wx ⟨rfl, rfl⟩
    clear HWX
    have hg5 : g < w3.heap.size := lt_of_cell rw3.2.1
    have b6 : Below w3.heap.size w3 (w3.alloc (.cells #[.int .i64 0, .int .i64 0, .int .i64 0, .slice none 0 0] 24)) := (Below.refl _ _).alloc (Nat.le_refl _) _
    have HER := hide (Oct.err_any g _ _ e0 _ (rw3.below (b6.mono hg5)))
    have HR7 := hide ((unhide HRw3).below b6 (unhide HRw3).lt)
    have HB7 := hide ((unhide HBw3).trans (b6.mono (by have := unhide HGG; omega)))
    have cz := (RowAt.new w3 24 [.int .i64 0, .int .i64 0, .int .i64 0, .slice none 0 0]).cell 1
    clear rw3 b6 HRw3 HBw3
    go_wp2_with fail
    obtain ⟨gf, hgf⟩ : ∃ x, w3.heap.size = x := ⟨_, rfl⟩
    rw [hgf] at cz
    try rw [hgf]
    generalize w3.alloc (.cells #[.int .i64 0, .int .i64 0, .int .i64 0, .slice none 0 0] 24) = w6 at *
    refine Calls.mono (unhide HER) ?_
    rintro e wx ⟨rfl, rfl⟩
    have HE2 := hide ((unhide HR7).arr rfl)
    clear HER HR7
    go_wp2_with (first
      | (refine wpList_store_row rfl 24 _ _ rfl w.heap.size ([.int .i64 0, .int .i64 0, .int .i64 0, .slice none 0 0] : List Value).toArray rfl rfl 24 ([.int .i64 0, .int .i64 0, .int .i64 0, .slice none 0 0] : List Value).toArray (unhide HE2) z37 rfl (one37' 0 0 0) ?_))
    all_goals (first
      | (exfalso; omega)
      | (refine bodyPost_ret (results_row_tmp Tryd.results17 _ _ w.heap.size 24 ([.int .i64 0, .int .i64 0, .int .i64 0, .slice none 0 0] : List Value).toArray (0, 0) _ rfl (setRow_heap _ _ _ _ _ _ (unhide HE2)) Tryd.underlying24 rfl z37) rfl ⟨rfl, ?_⟩
         exact Below.trans (unhide HB7) ⟨rfl, rfl, rfl, by simp [World.setRow], fun k hk => setRow_other _ _ _ _ (by omega)⟩)
      | (exfalso; simp at *; omega))
end Go.Proofs.YtonkgiiacholeaaDoor
