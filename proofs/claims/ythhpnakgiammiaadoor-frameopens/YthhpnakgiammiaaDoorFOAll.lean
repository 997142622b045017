/- What any bytes show, and the frame that they are, by the program and the reference. -/
import Derived.Test.YthhpnakgiammiaaDoorFAll
import Derived.Test.YthhpnakgiammiaaDoorCOpen
import Derived.Deep.RegionHeld3
import Derived.Test.YthhpnakgiammiaaDoorCRefO
namespace Go.Proofs.YthhpnakgiammiaaDoor.Oct
set_option linter.unusedVariables false
set_option linter.unusedSimpArgs false
open Go.ChangeShapes Go.WideShapes Go.ChangeAt Go.RowKit

set_option maxRecDepth 100000 in
set_option maxHeartbeats 2000000 in
theorem within_range (g o : Nat) (a : Option Addr) (n cap : Nat) (l : List Nat) (k : Nat) (lo hi : Int) (w : World) (hv : Byt w (.slice a n cap) l) (hp : Pl w g o (.slice a n cap) k) (hg : Low (.slice a n cap) g) (hl : n ≤ 1000000000) (hk : k + 8 ≤ n) (h256 : ∀ y ∈ l, y < 256)
    (u : Nat) (hu : numOf ((l.drop k).take 8) = u) (hbad : 9223372036854775807 < u ∨ (u : Int) < lo ∨ hi < (u : Int)) :
    Calls Tryd.prog 60 #[.pointer (some ⟨g, o, none⟩), .int .i64 lo, .int .i64 hi] w fun e w' => e = .returned (.tuple #[.int .i64 0, .int .i64 5]) ∧ Below w.heap.size w w' := by
  have hF := hp.1
  have hgz := hp.2
  have hq := Pl.fresh (w := w) (v := .slice a n cap) (k := k)
  have hb0 : Below w.heap.size w (w.alloc (.cells #[.slice a n cap, .int .i64 (k : Int)] 89)) := (Below.refl _ _).alloc (Nat.le_refl _) _
  have hv1 := hv.call hb0
  have hg1 : Low (.slice a n cap) w.heap.size := hg.mono (Nat.le_of_lt hgz)
  have hln := byt_len hv
  have HLN := hide hln
  have HU := hide hu
  have H256 := hide h256
  have hk' : k + 8 ≤ l.length := by rw [hln]; exact hk
  have hl' : l.length ≤ 1000000000 := by rw [hln]; exact hl
  clear hu h256 hln
  go_enter Tryd.func60, Tryd.ntmps60
  go_wp2_with fail
  refine (take_any w.heap.size 0 (.slice a n cap) l k 8 _ hv1 hq hg1 hl' hk').mono ?_
  rintro e w1 ⟨v1, rfl, hv2, hq1, hm1, hg2⟩
  obtain ⟨bs, hbs⟩ : ∃ bs, (l.drop k).take 8 = bs := ⟨_, rfl⟩
  have hbl : bs.length = 8 := by rw [← hbs, List.length_take, List.length_drop]; omega
  have hb256 : ∀ y ∈ bs, y < 256 := fun y hy => unhide H256 y (List.mem_of_mem_drop (List.mem_of_mem_take (by rw [hbs]; exact hy)))
  rw [hbs] at hv2 HU
  rcases hv2 with ⟨_, h0⟩ | ⟨a2, cap2, rfl, c1, c2, c3⟩
  · rw [h0] at hbl; cases hbl
  rw [hbl] at c1 ⊢
  obtain ⟨b2, off2, rfl⟩ := plain_of c3 (by rw [hbl]; decide)
  have hbelow : Below (w.heap.size) w w1 := hb0.trans hm1.1
  have hpw1 : Pl w1 g o (.slice a n cap) k := hp.below (hbelow.mono hgz)
  have HBS := hide hbs
  have HBL := hide hbl
  have HB256 := hide hb256
  have HC3 := hide c3
  clear hbs hbl hb256 c3 hv1 hg1
  have hQF := hq1.1
  have hPF := hpw1.1
  go_wp2_with fail
  go_loop [11, 26] (fun c i => ∃ j : Nat, j ≤ 8 ∧ i = .int .i64 j ∧ c = .int .u64 ((numOf (bs.take j) : Nat) : Int)) (fun _ i => 8 - (intOf i).toNat)
  case atStart => exact ⟨0, by omega, rfl, rfl⟩
  case round =>
    obtain ⟨j, hj, rfl, rfl⟩ := hrel
    have hlt0 := numOf_lt (bs.take j) (fun y hy => unhide HB256 y (List.mem_of_mem_take hy))
    rw [List.length_take, unhide HBL] at hlt0
    by_cases hlt : j < 8
    · have hlt1 : numOf (bs.take j) < 72057594037927936 := by
        have : 256 ^ min j 8 ≤ 256 ^ 7 := Nat.pow_le_pow_right (by decide) (by omega)
        have e : (256 : Nat) ^ 7 = 72057594037927936 := by decide
        omega
      obtain ⟨y, hy⟩ : ∃ y, bs[j]? = some y := ⟨_, List.getElem?_eq_getElem (by rw [unhide HBL]; exact hlt)⟩
      have hcell := unhide HC3 j y hy
      rw [add_plain] at hcell
      have hy256 := unhide HB256 y (List.mem_of_getElem? hy)
      have hnx := numOf_take hy
      clear hlt0
      generalize numOf (bs.take j) = c at *
      have hj1 := or_join c y hlt1 hy256
      have HNX := hide hnx
      clear hnx hy
      have g1 : (0 : Int) ≤ (j : Int) := by omega
      have g2 : (j : Int) < 8 := by omega
      go_wp2_with fail
      go_round
      case rel => exact ⟨j + 1, by omega, by go_num, by rw [unhide HNX]; go_num⟩
      case measure => simp [intOf]; omega
    · have hj8 : j = 8 := by omega
      subst hj8
      have e1 : bs.take 8 = bs := List.take_of_length_le (by rw [unhide HBL]; omega)
      rw [e1, unhide HU]
      clear hlt0 e1
      by_cases b1 : 9223372036854775807 < u
      · have t1 : decide ((9223372036854775807 : Int) < (u : Int)) = true := by simp; omega
        go_wp2_with fail
        go_ret2
        exact ⟨rfl, hbelow⟩
      · have t1 : decide ((9223372036854775807 : Int) < (u : Int)) = false := by simp; omega
        by_cases b2 : (u : Int) < lo
        · have t2 : decide ((u : Int) < lo) = true := by simp; omega
          go_wp2_with fail
          go_ret2
          exact ⟨rfl, hbelow⟩
        · have t2 : decide ((u : Int) < lo) = false := by simp; omega
          have t3 : decide (hi < (u : Int)) = true := by simp; omega
          go_wp2_with fail
          go_ret2
          exact ⟨rfl, hbelow⟩

set_option maxRecDepth 100000 in
set_option maxHeartbeats 1000000 in
set_option maxRecDepth 100000 in
theorem within_short (g o : Nat) (a : Option Addr) (n cap : Nat) (k : Nat) (lo hi : Int) (w : World) (hp : Pl w g o (.slice a n cap) k) (hl : n ≤ 1000000000) (hk : k ≤ n) (hs : n < k + 8) :
    Calls Tryd.prog 60 #[.pointer (some ⟨g, o, none⟩), .int .i64 lo, .int .i64 hi] w fun e w' => e = .returned (.tuple #[.int .i64 0, .int .i64 2]) ∧ Below w.heap.size w w' := by
  have hF := hp.1
  have hq := Pl.fresh (w := w) (v := .slice a n cap) (k := k)
  have hb0 : Below w.heap.size w (w.alloc (.cells #[.slice a n cap, .int .i64 (k : Int)] 89)) := (Below.refl _ _).alloc (Nat.le_refl _) _
  go_enter Tryd.func60, Tryd.ntmps60
  go_wp2_with fail
  refine (take_short w.heap.size 0 a n cap k 8 _ hq hk (by unfold maxLen; omega) (by omega)).mono ?_
  rintro e w1 ⟨rfl, d, rfl⟩
  go_wp2_with fail
  go_ret2
  exact ⟨rfl, hb0.trans (Joins.below_draws _ _ d)⟩


/-- the next number, if it may be -/
def Nx (l : List Nat) (k : Nat) (lo hi : Int) : Prop := k + 8 ≤ l.length ∧ numOf ((l.drop k).take 8) ≤ 9223372036854775807 ∧ lo ≤ (numOf ((l.drop k).take 8) : Int) ∧ (numOf ((l.drop k).take 8) : Int) ≤ hi
set_option maxRecDepth 100000 in
set_option maxHeartbeats 1000000 in
theorem Within_err (g : Nat) (v : Value) (k : Nat) (e0 lo hi : Int) (w : World) (hr : Rdr w g v k e0) (he : ¬ e0 = 0) :
    Calls Tryd.prog 47 #[.pointer (some ⟨g, 0, none⟩), .int .i64 lo, .int .i64 hi] w fun e w' => e = .returned (.int .i64 0) ∧ w = w' := by
  have HR := hide hr
  clear hr
  go_enter Tryd.func47, Tryd.ntmps47
  go_wp2_with fail
  refine (err_any g _ k e0 _ (unhide HR)).mono ?_
  rintro e w0 ⟨rfl, rfl⟩
  go_wp2_with fail
  all_goals (first
    | (exfalso; omega)
    | (go_ret; exact ⟨rfl, rfl⟩)
    | (exfalso; simp at *; omega))
set_option maxRecDepth 100000 in
set_option maxHeartbeats 1000000 in
theorem Within_bad (g : Nat) (a : Option Addr) (n cap : Nat) (l : List Nat) (k : Nat) (lo hi : Int) (w : World) (hv : Byt w (.slice a n cap) l) (hr : Rdr w g (.slice a n cap) k 0) (hg : Low (.slice a n cap) g) (hl : n ≤ 1000000000) (hln : l.length = n) (hk : k ≤ n) (h256 : ∀ y ∈ l, y < 256) (hbad : ¬ Nx l k lo hi) :
    Calls Tryd.prog 47 #[.pointer (some ⟨g, 0, none⟩), .int .i64 lo, .int .i64 hi] w fun e w' => ∃ e0, e = .returned (.int .i64 0) ∧ Rdr w' g (.slice a n cap) k e0 ∧ ¬ e0 = 0 ∧ Below g w w' := by
  have hgw : g < w.heap.size := lt_of_cell hr.2.1
  have hw : ∃ e0, ¬ e0 = 0 ∧ Calls Tryd.prog 60 #[.pointer (some ⟨g, 0, none⟩), .int .i64 lo, .int .i64 hi] w fun e w' => e = .returned (.tuple #[.int .i64 0, .int .i64 e0]) ∧ Below w.heap.size w w' := by
    by_cases hs : n < k + 8
    · exact ⟨2, by decide, within_short g 0 a n cap k lo hi w hr.1 hl hk hs⟩
    · refine ⟨5, by decide, within_range g 0 a n cap l k lo hi w hv hr.1 hg hl (by omega) h256 _ rfl ?_⟩
      unfold Nx at hbad
      rw [hln] at hbad
      by_cases h1 : 9223372036854775807 < numOf ((l.drop k).take 8)
      · exact .inl h1
      · right
        by_cases h2 : (numOf ((l.drop k).take 8) : Int) < lo
        · exact .inl h2
        · right
          by_cases h3 : hi < (numOf ((l.drop k).take 8) : Int)
          · exact h3
          · exact absurd ⟨by omega, by omega, by omega, by omega⟩ hbad
  obtain ⟨e0, he0, hc⟩ := hw
  have HC := hide hc
  have HR := hide hr
  have HE := hide he0
  clear hc hv hg h256 hbad hr he0
  go_enter Tryd.func47, Tryd.ntmps47
  go_wp2_with fail
  refine (err_any g _ k 0 _ (unhide HR)).mono ?_
  rintro e w0 ⟨rfl, rfl⟩
  go_wp2_with fail
  refine (unhide HC).mono ?_
  rintro e w1 ⟨rfl, b1⟩
  have hr1 := (unhide HR).below (b1.mono hgw)
  have hc := hr1.2
  have HR1 := hide hr1
  have HB1 := hide b1
  clear b1 hr1
  go_wp2_with fail
  go_ret
  exact ⟨e0, rfl, (unhide HR1).err e0, unhide HE, ((unhide HB1).mono (Nat.le_of_lt hgw)).setCell (Nat.le_refl g) _⟩
end Go.Proofs.YthhpnakgiammiaaDoor.Oct

namespace Go.Proofs.YthhpnakgiammiaaDoor
set_option linter.unusedVariables false
set_option linter.unusedSimpArgs false
open Go.ChangeShapes Go.WideShapes Go.ChangeAt Go.RowKit Go.Joins

theorem one37' (c s k : Int) : (([.int .i64 c, .int .i64 s, .int .i64 k, .slice none 0 0] : List Value).toArray).all (·.oneCell') = true := by
  simp only [List.all_toArray, List.all_cons, List.all_nil, Bool.and_true]; rfl
theorem byt_upto {w : World} {a : Option Addr} {n cap : Nat} {l : List Nat} (h : Byt w (.slice a n cap) l) (hn : l.length = n) (m : Nat) : Byt w (.slice a (min n m) cap) (l.take m) := by
  rcases h with ⟨e, rfl⟩ | ⟨a', c', e, h1, h2, h3⟩
  · injection e with e1 e2 e3
    subst e1 e3
    simp at hn
    subst hn
    exact .inl ⟨by simp, by simp⟩
  · injection e with e1 e2 e3
    subst e1 e3
    refine .inr ⟨a', cap, by rw [List.length_take, hn, Nat.min_comm], by rw [List.length_take]; omega, h2, fun i y hy => h3 i y ?_⟩
    rw [List.getElem?_take] at hy
    split at hy
    · exact hy
    · cases hy
def pkS (l : List Nat) : Nat := Oct.numOf (((l.take 24).drop 8).take 8)
def PkOk (l : List Nat) (n : Nat) : Prop := Oct.Nx (l.take 24) 0 1 1099511627776 ∧ Oct.Nx (l.take 24) 8 0 1099511627776 ∧ Oct.Nx (l.take 24) 16 0 1099511627776 ∧ 40 ≤ n ∧ n ≤ 16360 ∧ (pkS l = 0 ↔ n = 40)

set_option maxRecDepth 100000 in
set_option maxHeartbeats 8000000 in
theorem peek_bad (a : Option Addr) (n cap : Nat) (l : List Nat) (w : World) (hv : Byt w (.slice a n cap) l) (h8 : U8 l) (hn : l.length = n) (hnb : n ≤ 1000000) (hbad : ¬ PkOk l n) :
    Calls Tryd.prog 26 #[.slice a n cap] w fun e w' => e = .returned (.tuple #[frV 0 0 0 (.slice none 0 0), .int .i64 120]) ∧ Below w.heap.size w w' := by
  have hcap : n ≤ cap := by
    rcases hv with ⟨e, _⟩ | ⟨a', c', e, h1, _⟩
    · injection e with e1 e2 e3; omega
    · injection e with e1 e2 e3; omega
  obtain ⟨mm, hmm⟩ : ∃ x, min n 24 = x := ⟨_, rfl⟩
  have hmn : min (n : Int) 24 = (mm : Int) := by omega
  have hcI : (mm : Int) ≤ (cap : Int) := by omega
  have hmc : mm ≤ cap := by omega
  have hm24 : mm ≤ 24 := by omega
  have b1 : Below w.heap.size w (w.alloc (.cells #[.int .i64 0, .int .i64 0, .int .i64 0, .slice none 0 0] 37)) := (Below.refl _ _).alloc (Nat.le_refl _) _
  have hR := RowAt.new w 37 [.int .i64 0, .int .i64 0, .int .i64 0, .slice none 0 0]
  have HR := hide hR
  have HB1 := hide b1
  have hyt := byt_upto (hv.call b1) hn 24
  rw [hmm] at hyt
  have HRD := hide (Oct.read_any (.slice a mm cap) (l.take 24) (w.alloc (.cells #[.int .i64 0, .int .i64 0, .int .i64 0, .slice none 0 0] 37)) hyt (by rw [List.length_take]; omega))
  have HN24 : Hid ((l.take 24).length = mm) := hide (by rw [List.length_take]; omega)
  have H256 : Hid (∀ y ∈ l.take 24, y < 256) := hide (fun y hy => h8 y (List.mem_of_mem_take hy))
  unfold PkOk pkS at hbad
  generalize l.take 24 = l24 at *
  clear hR b1 hyt hv h8
  by_cases n0 : Oct.Nx l24 0 1 1099511627776
  · have NX0 := hide n0
    by_cases n1 : Oct.Nx l24 8 0 1099511627776
    · have NX1 := hide n1
      by_cases n2 : Oct.Nx l24 16 0 1099511627776
      · have NX2 := hide n2
        have hD : ¬ (40 ≤ n ∧ n ≤ 16360 ∧ (Oct.numOf ((l24.drop 8).take 8) = 0 ↔ n = 40)) := fun h => hbad ⟨n0, n1, n2, h⟩
        have HD := hide hD
        clear hbad hD n0 n1 n2
        obtain ⟨bI, hbI⟩ : ∃ x : Int, (n : Int) - 24 - 16 = x := ⟨_, rfl⟩
        have HBI := hide hbI
        go_enter Tryd.func26, Tryd.ntmps26
        go_wp2_with fail
        generalize w.alloc (.cells #[.int .i64 0, .int .i64 0, .int .i64 0, .slice none 0 0] 37) = w1 at *
        refine Calls.mono (unhide HRD) ?_
        rintro e w2 ⟨v2, g, rfl, hg, r2, y2, low2, b2⟩
        obtain ⟨va, vc, hve⟩ := byt_shape y2
        rw [unhide HN24] at hve
        subst hve
        have HL2 := hide low2
        have HGG : Hid (w.heap.size < g) := hide (by have := (unhide HR).lt; omega)
        have HR2 := hide ((unhide HR).below b2 (unhide HR).lt)
        have HB2 := hide ((unhide HB1).trans (b2.mono (unhide HB1).size))
        clear low2 b2 HRD HR HB1 hg
        have HWX := hide (Oct.Within_any g va mm vc l24 0 1 1099511627776 w2 y2 r2 (unhide HL2) (by omega) (by have := (unhide NX0).1; have := unhide HN24; omega) (unhide H256) _ rfl ⟨(unhide NX0).2.2.1, (unhide NX0).2.2.2⟩ (unhide NX0).2.1)
        obtain ⟨c, hc⟩ : ∃ x, Oct.numOf ((l24.drop 0).take 8) = x := ⟨_, rfl⟩
        rw [hc] at HWX
        have HU0 := hide hc
        have HYX := hide y2
        clear r2 y2 hc
        go_wp2_with fail
        refine Calls.mono (unhide HWX) ?_
        rintro e w3 ⟨rfl, rw3, bw3⟩
        have yw3 := Oct.Byt.low (unhide HYX) bw3 (unhide HL2)
        have HRw3 := hide ((unhide HR2).below bw3 (unhide HGG))
        have HBw3 := hide ((unhide HB2).trans (bw3.mono (Nat.le_of_lt (unhide HGG))))
        clear bw3 HWX HYX HR2 HB2
        have HWX := hide (Oct.Within_any g va mm vc l24 8 0 1099511627776 w3 yw3 rw3 (unhide HL2) (by omega) (by have := (unhide NX1).1; have := unhide HN24; omega) (unhide H256) _ rfl ⟨(unhide NX1).2.2.1, (unhide NX1).2.2.2⟩ (unhide NX1).2.1)
        obtain ⟨s, hs⟩ : ∃ x, Oct.numOf ((l24.drop 8).take 8) = x := ⟨_, rfl⟩
        rw [hs] at HWX
        have HU1 := hide hs
        have HYX := hide yw3
        clear rw3 yw3 hs
        go_wp2_with fail
        refine Calls.mono (unhide HWX) ?_
        rintro e w4 ⟨rfl, rw4, bw4⟩
        have yw4 := Oct.Byt.low (unhide HYX) bw4 (unhide HL2)
        have HRw4 := hide ((unhide HRw3).below bw4 (unhide HGG))
        have HBw4 := hide ((unhide HBw3).trans (bw4.mono (Nat.le_of_lt (unhide HGG))))
        clear bw4 HWX HYX HRw3 HBw3
        have HWX := hide (Oct.Within_any g va mm vc l24 16 0 1099511627776 w4 yw4 rw4 (unhide HL2) (by omega) (by have := (unhide NX2).1; have := unhide HN24; omega) (unhide H256) _ rfl ⟨(unhide NX2).2.2.1, (unhide NX2).2.2.2⟩ (unhide NX2).2.1)
        obtain ⟨k, hk⟩ : ∃ x, Oct.numOf ((l24.drop 16).take 8) = x := ⟨_, rfl⟩
        rw [hk] at HWX
        have HU2 := hide hk
        have HYX := hide yw4
        clear rw4 yw4 hk
        go_wp2_with fail
        refine Calls.mono (unhide HWX) ?_
        rintro e w5 ⟨rfl, rw5, bw5⟩
        have yw5 := Oct.Byt.low (unhide HYX) bw5 (unhide HL2)
        have HRw5 := hide ((unhide HRw4).below bw5 (unhide HGG))
        have HBw5 := hide ((unhide HBw4).trans (bw5.mono (Nat.le_of_lt (unhide HGG))))
        clear bw5 HWX HYX HRw4 HBw4
        clear yw5
        have hg5 : g < w5.heap.size := lt_of_cell rw5.2.1
        have b6 : Below w5.heap.size w5 (w5.alloc (.cells #[.int .i64 (c : Int), .int .i64 (s : Int), .int .i64 (k : Int), .slice none 0 0] 37)) := (Below.refl _ _).alloc (Nat.le_refl _) _
        have HER := hide (Oct.err_any g _ _ 0 _ (rw5.below (b6.mono hg5)))
        have HR7 := hide ((unhide HRw5).below b6 (unhide HRw5).lt)
        have HB7 := hide ((unhide HBw5).trans (b6.mono (by have := unhide HGG; omega)))
        have cz := (RowAt.new w5 37 [.int .i64 (c : Int), .int .i64 (s : Int), .int .i64 (k : Int), .slice none 0 0]).cell 1
        clear rw5 b6 HRw5 HBw5
        go_wp2_with fail
        obtain ⟨gf, hgf⟩ : ∃ x, w5.heap.size = x := ⟨_, rfl⟩
        rw [hgf] at cz
        try rw [hgf]
        generalize w5.alloc (.cells #[.int .i64 (c : Int), .int .i64 (s : Int), .int .i64 (k : Int), .slice none 0 0] 37) = w6 at *
        refine Calls.mono (unhide HER) ?_
        rintro e wx ⟨rfl, rfl⟩
        have HE2 := hide ((unhide HR7).arr rfl)
        clear HER HR7
        have cs : w6.cell? ⟨gf, 1, none⟩ = some (.int .i64 (s : Int)) := cz
        clear cz
        by_cases hw : 0 ≤ bI ∧ bI ≤ 16320
        · have HWI := hide (fun w => within_in bI 0 16320 w hw.1 hw.2)
          obtain ⟨b, hb1, hb2⟩ : ∃ b, ((s : Int) == 0) = b ∧ (bI == 0) = !b := by
            have hd := unhide HD
            have hS := unhide HU1
            rw [hS] at hd
            have hBI := unhide HBI
            by_cases h : s = 0
            · subst h
              refine ⟨true, rfl, ?_⟩
              have : ¬ bI = 0 := by omega
              simp [this]
            · refine ⟨false, by simp [h], ?_⟩
              have : bI = 0 := by omega
              simp [this]
          have hx1 : (b == !b) = false := by cases b <;> rfl
          have hx2 : (b != !b) = true := by cases b <;> rfl
          clear hw
          go_wp2_with fail
          refine Calls.mono (unhide HWI _) ?_
          rintro e wx ⟨rfl, rfl⟩
          go_wp2_with (first
            | (refine wpList_store_row rfl 37 _ _ rfl w.heap.size ([.int .i64 0, .int .i64 0, .int .i64 0, .slice none 0 0] : List Value).toArray rfl rfl 37 ([.int .i64 0, .int .i64 0, .int .i64 0, .slice none 0 0] : List Value).toArray (unhide HE2) z37 rfl (one37' 0 0 0) ?_))
          all_goals (first
            | (exfalso; omega)
            | (refine bodyPost_ret (results_row_tmp Tryd.results26 _ _ w.heap.size 37 ([.int .i64 0, .int .i64 0, .int .i64 0, .slice none 0 0] : List Value).toArray (0, 0) _ rfl (setRow_heap _ _ _ _ _ _ (unhide HE2)) Tryd.underlying37 rfl z37) rfl ⟨rfl, ?_⟩
               exact Below.trans (unhide HB7) ⟨rfl, rfl, rfl, by simp [World.setRow], fun k hk => setRow_other _ _ _ _ (by omega)⟩)
            | (exfalso; simp at *; omega))
        · have HWI := hide (fun w => within_out bI 0 16320 w hw)
          clear hw
          go_wp2_with fail
          refine Calls.mono (unhide HWI _) ?_
          rintro e wx ⟨rfl, rfl⟩
          go_wp2_with (first
            | (refine wpList_store_row rfl 37 _ _ rfl w.heap.size ([.int .i64 0, .int .i64 0, .int .i64 0, .slice none 0 0] : List Value).toArray rfl rfl 37 ([.int .i64 0, .int .i64 0, .int .i64 0, .slice none 0 0] : List Value).toArray (unhide HE2) z37 rfl (one37' 0 0 0) ?_))
          all_goals (first
            | (exfalso; omega)
            | (refine bodyPost_ret (results_row_tmp Tryd.results26 _ _ w.heap.size 37 ([.int .i64 0, .int .i64 0, .int .i64 0, .slice none 0 0] : List Value).toArray (0, 0) _ rfl (setRow_heap _ _ _ _ _ _ (unhide HE2)) Tryd.underlying37 rfl z37) rfl ⟨rfl, ?_⟩
               exact Below.trans (unhide HB7) ⟨rfl, rfl, rfl, by simp [World.setRow], fun k hk => setRow_other _ _ _ _ (by omega)⟩)
            | (exfalso; simp at *; omega))
      · have NX2 := hide n2
        clear hbad n0 n1 n2
        go_enter Tryd.func26, Tryd.ntmps26
        go_wp2_with fail
        generalize w.alloc (.cells #[.int .i64 0, .int .i64 0, .int .i64 0, .slice none 0 0] 37) = w1 at *
        refine Calls.mono (unhide HRD) ?_
        rintro e w2 ⟨v2, g, rfl, hg, r2, y2, low2, b2⟩
        obtain ⟨va, vc, hve⟩ := byt_shape y2
        rw [unhide HN24] at hve
        subst hve
        have HL2 := hide low2
        have HGG : Hid (w.heap.size < g) := hide (by have := (unhide HR).lt; omega)
        have HR2 := hide ((unhide HR).below b2 (unhide HR).lt)
        have HB2 := hide ((unhide HB1).trans (b2.mono (unhide HB1).size))
        clear low2 b2 HRD HR HB1 hg
        have HWX := hide (Oct.Within_any g va mm vc l24 0 1 1099511627776 w2 y2 r2 (unhide HL2) (by omega) (by have := (unhide NX0).1; have := unhide HN24; omega) (unhide H256) _ rfl ⟨(unhide NX0).2.2.1, (unhide NX0).2.2.2⟩ (unhide NX0).2.1)
        obtain ⟨c, hc⟩ : ∃ x, Oct.numOf ((l24.drop 0).take 8) = x := ⟨_, rfl⟩
        rw [hc] at HWX
        have HU0 := hide hc
        have HYX := hide y2
        clear r2 y2 hc
        go_wp2_with fail
        refine Calls.mono (unhide HWX) ?_
        rintro e w3 ⟨rfl, rw3, bw3⟩
        have yw3 := Oct.Byt.low (unhide HYX) bw3 (unhide HL2)
        have HRw3 := hide ((unhide HR2).below bw3 (unhide HGG))
        have HBw3 := hide ((unhide HB2).trans (bw3.mono (Nat.le_of_lt (unhide HGG))))
        clear bw3 HWX HYX HR2 HB2
        have HWX := hide (Oct.Within_any g va mm vc l24 8 0 1099511627776 w3 yw3 rw3 (unhide HL2) (by omega) (by have := (unhide NX1).1; have := unhide HN24; omega) (unhide H256) _ rfl ⟨(unhide NX1).2.2.1, (unhide NX1).2.2.2⟩ (unhide NX1).2.1)
        obtain ⟨s, hs⟩ : ∃ x, Oct.numOf ((l24.drop 8).take 8) = x := ⟨_, rfl⟩
        rw [hs] at HWX
        have HU1 := hide hs
        have HYX := hide yw3
        clear rw3 yw3 hs
        go_wp2_with fail
        refine Calls.mono (unhide HWX) ?_
        rintro e w4 ⟨rfl, rw4, bw4⟩
        have yw4 := Oct.Byt.low (unhide HYX) bw4 (unhide HL2)
        have HRw4 := hide ((unhide HRw3).below bw4 (unhide HGG))
        have HBw4 := hide ((unhide HBw3).trans (bw4.mono (Nat.le_of_lt (unhide HGG))))
        clear bw4 HWX HYX HRw3 HBw3
        have HWX := hide (Oct.Within_bad g va mm vc l24 16 0 1099511627776 w4 yw4 rw4 (unhide HL2) (by omega) (unhide HN24) (by have := (unhide NX1).1; have := unhide HN24; omega) (unhide H256) (unhide NX2))
        clear rw4 yw4
        go_wp2_with fail
        refine Calls.mono (unhide HWX) ?_
        rintro e w5 ⟨e0, rfl, rw5, he0, bw5⟩
        have HRw5 := hide ((unhide HRw4).below bw5 (unhide HGG))
        have HBw5 := hide ((unhide HBw4).trans (bw5.mono (Nat.le_of_lt (unhide HGG))))
        clear bw5 HWX HRw4 HBw4
        have hg5 : g < w5.heap.size := lt_of_cell rw5.2.1
        have b6 : Below w5.heap.size w5 (w5.alloc (.cells #[.int .i64 (c : Int), .int .i64 (s : Int), .int .i64 0, .slice none 0 0] 37)) := (Below.refl _ _).alloc (Nat.le_refl _) _
        have HER := hide (Oct.err_any g _ _ e0 _ (rw5.below (b6.mono hg5)))
        have HR7 := hide ((unhide HRw5).below b6 (unhide HRw5).lt)
        have HB7 := hide ((unhide HBw5).trans (b6.mono (by have := unhide HGG; omega)))
        have cz := (RowAt.new w5 37 [.int .i64 (c : Int), .int .i64 (s : Int), .int .i64 0, .slice none 0 0]).cell 1
        clear rw5 b6 HRw5 HBw5
        go_wp2_with fail
        obtain ⟨gf, hgf⟩ : ∃ x, w5.heap.size = x := ⟨_, rfl⟩
        rw [hgf] at cz
        try rw [hgf]
        generalize w5.alloc (.cells #[.int .i64 (c : Int), .int .i64 (s : Int), .int .i64 0, .slice none 0 0] 37) = w6 at *
        refine Calls.mono (unhide HER) ?_
        rintro e wx ⟨rfl, rfl⟩
        have HE2 := hide ((unhide HR7).arr rfl)
        clear HER HR7
        go_wp2_with (first
          | (refine wpList_store_row rfl 37 _ _ rfl w.heap.size ([.int .i64 0, .int .i64 0, .int .i64 0, .slice none 0 0] : List Value).toArray rfl rfl 37 ([.int .i64 0, .int .i64 0, .int .i64 0, .slice none 0 0] : List Value).toArray (unhide HE2) z37 rfl (one37' 0 0 0) ?_))
        all_goals (first
          | (exfalso; omega)
          | (refine bodyPost_ret (results_row_tmp Tryd.results26 _ _ w.heap.size 37 ([.int .i64 0, .int .i64 0, .int .i64 0, .slice none 0 0] : List Value).toArray (0, 0) _ rfl (setRow_heap _ _ _ _ _ _ (unhide HE2)) Tryd.underlying37 rfl z37) rfl ⟨rfl, ?_⟩
             exact Below.trans (unhide HB7) ⟨rfl, rfl, rfl, by simp [World.setRow], fun k hk => setRow_other _ _ _ _ (by omega)⟩)
          | (exfalso; simp at *; omega))
    · have NX1 := hide n1
      clear hbad n0 n1
      go_enter Tryd.func26, Tryd.ntmps26
      go_wp2_with fail
      generalize w.alloc (.cells #[.int .i64 0, .int .i64 0, .int .i64 0, .slice none 0 0] 37) = w1 at *
      refine Calls.mono (unhide HRD) ?_
      rintro e w2 ⟨v2, g, rfl, hg, r2, y2, low2, b2⟩
      obtain ⟨va, vc, hve⟩ := byt_shape y2
      rw [unhide HN24] at hve
      subst hve
      have HL2 := hide low2
      have HGG : Hid (w.heap.size < g) := hide (by have := (unhide HR).lt; omega)
      have HR2 := hide ((unhide HR).below b2 (unhide HR).lt)
      have HB2 := hide ((unhide HB1).trans (b2.mono (unhide HB1).size))
      clear low2 b2 HRD HR HB1 hg
      have HWX := hide (Oct.Within_any g va mm vc l24 0 1 1099511627776 w2 y2 r2 (unhide HL2) (by omega) (by have := (unhide NX0).1; have := unhide HN24; omega) (unhide H256) _ rfl ⟨(unhide NX0).2.2.1, (unhide NX0).2.2.2⟩ (unhide NX0).2.1)
      obtain ⟨c, hc⟩ : ∃ x, Oct.numOf ((l24.drop 0).take 8) = x := ⟨_, rfl⟩
      rw [hc] at HWX
      have HU0 := hide hc
      have HYX := hide y2
      clear r2 y2 hc
      go_wp2_with fail
      refine Calls.mono (unhide HWX) ?_
      rintro e w3 ⟨rfl, rw3, bw3⟩
      have yw3 := Oct.Byt.low (unhide HYX) bw3 (unhide HL2)
      have HRw3 := hide ((unhide HR2).below bw3 (unhide HGG))
      have HBw3 := hide ((unhide HB2).trans (bw3.mono (Nat.le_of_lt (unhide HGG))))
      clear bw3 HWX HYX HR2 HB2
      have HWX := hide (Oct.Within_bad g va mm vc l24 8 0 1099511627776 w3 yw3 rw3 (unhide HL2) (by omega) (unhide HN24) (by have := (unhide NX0).1; have := unhide HN24; omega) (unhide H256) (unhide NX1))
      clear rw3 yw3
      go_wp2_with fail
      refine Calls.mono (unhide HWX) ?_
      rintro e w4 ⟨e0, rfl, rw4, he0, bw4⟩
      have HRw4 := hide ((unhide HRw3).below bw4 (unhide HGG))
      have HBw4 := hide ((unhide HBw3).trans (bw4.mono (Nat.le_of_lt (unhide HGG))))
      clear bw4 HWX HRw3 HBw3
      have HWX := hide (Oct.Within_err g _ _ e0 0 1099511627776 w4 rw4 he0)
      go_wp2_with fail
      refine Calls.mono (unhide HWX) ?_
      rintro e wx ⟨rfl, rfl⟩
      clear HWX
      have hg5 : g < w4.heap.size := lt_of_cell rw4.2.1
      have b6 : Below w4.heap.size w4 (w4.alloc (.cells #[.int .i64 (c : Int), .int .i64 0, .int .i64 0, .slice none 0 0] 37)) := (Below.refl _ _).alloc (Nat.le_refl _) _
      have HER := hide (Oct.err_any g _ _ e0 _ (rw4.below (b6.mono hg5)))
      have HR7 := hide ((unhide HRw4).below b6 (unhide HRw4).lt)
      have HB7 := hide ((unhide HBw4).trans (b6.mono (by have := unhide HGG; omega)))
      have cz := (RowAt.new w4 37 [.int .i64 (c : Int), .int .i64 0, .int .i64 0, .slice none 0 0]).cell 1
      clear rw4 b6 HRw4 HBw4
      go_wp2_with fail
      obtain ⟨gf, hgf⟩ : ∃ x, w4.heap.size = x := ⟨_, rfl⟩
      rw [hgf] at cz
      try rw [hgf]
      generalize w4.alloc (.cells #[.int .i64 (c : Int), .int .i64 0, .int .i64 0, .slice none 0 0] 37) = w6 at *
      refine Calls.mono (unhide HER) ?_
      rintro e wx ⟨rfl, rfl⟩
      have HE2 := hide ((unhide HR7).arr rfl)
      clear HER HR7
      go_wp2_with (first
        | (refine wpList_store_row rfl 37 _ _ rfl w.heap.size ([.int .i64 0, .int .i64 0, .int .i64 0, .slice none 0 0] : List Value).toArray rfl rfl 37 ([.int .i64 0, .int .i64 0, .int .i64 0, .slice none 0 0] : List Value).toArray (unhide HE2) z37 rfl (one37' 0 0 0) ?_))
      all_goals (first
        | (exfalso; omega)
        | (refine bodyPost_ret (results_row_tmp Tryd.results26 _ _ w.heap.size 37 ([.int .i64 0, .int .i64 0, .int .i64 0, .slice none 0 0] : List Value).toArray (0, 0) _ rfl (setRow_heap _ _ _ _ _ _ (unhide HE2)) Tryd.underlying37 rfl z37) rfl ⟨rfl, ?_⟩
           exact Below.trans (unhide HB7) ⟨rfl, rfl, rfl, by simp [World.setRow], fun k hk => setRow_other _ _ _ _ (by omega)⟩)
        | (exfalso; simp at *; omega))
  · have NX0 := hide n0
    clear hbad n0
    go_enter Tryd.func26, Tryd.ntmps26
    go_wp2_with fail
    generalize w.alloc (.cells #[.int .i64 0, .int .i64 0, .int .i64 0, .slice none 0 0] 37) = w1 at *
    refine Calls.mono (unhide HRD) ?_
    rintro e w2 ⟨v2, g, rfl, hg, r2, y2, low2, b2⟩
    obtain ⟨va, vc, hve⟩ := byt_shape y2
    rw [unhide HN24] at hve
    subst hve
    have HL2 := hide low2
    have HGG : Hid (w.heap.size < g) := hide (by have := (unhide HR).lt; omega)
    have HR2 := hide ((unhide HR).below b2 (unhide HR).lt)
    have HB2 := hide ((unhide HB1).trans (b2.mono (unhide HB1).size))
    clear low2 b2 HRD HR HB1 hg
    have HWX := hide (Oct.Within_bad g va mm vc l24 0 1 1099511627776 w2 y2 r2 (unhide HL2) (by omega) (unhide HN24) (by omega) (unhide H256) (unhide NX0))
    clear r2 y2
    go_wp2_with fail
    refine Calls.mono (unhide HWX) ?_
    rintro e w3 ⟨e0, rfl, rw3, he0, bw3⟩
    have HRw3 := hide ((unhide HR2).below bw3 (unhide HGG))
    have HBw3 := hide ((unhide HB2).trans (bw3.mono (Nat.le_of_lt (unhide HGG))))
    clear bw3 HWX HR2 HB2
    have HWX := hide (Oct.Within_err g _ _ e0 0 1099511627776 w3 rw3 he0)
    go_wp2_with fail
    refine Calls.mono (unhide HWX) ?_
    rintro e wx ⟨rfl, rfl⟩
    clear HWX
    have HWX := hide (Oct.Within_err g _ _ e0 0 1099511627776 w3 rw3 he0)
    go_wp2_with fail
    refine Calls.mono (unhide HWX) ?_
    rintro e wx ⟨rfl, rfl⟩
    clear HWX
    have hg5 : g < w3.heap.size := lt_of_cell rw3.2.1
    have b6 : Below w3.heap.size w3 (w3.alloc (.cells #[.int .i64 0, .int .i64 0, .int .i64 0, .slice none 0 0] 37)) := (Below.refl _ _).alloc (Nat.le_refl _) _
    have HER := hide (Oct.err_any g _ _ e0 _ (rw3.below (b6.mono hg5)))
    have HR7 := hide ((unhide HRw3).below b6 (unhide HRw3).lt)
    have HB7 := hide ((unhide HBw3).trans (b6.mono (by have := unhide HGG; omega)))
    have cz := (RowAt.new w3 37 [.int .i64 0, .int .i64 0, .int .i64 0, .slice none 0 0]).cell 1
    clear rw3 b6 HRw3 HBw3
    go_wp2_with fail
    obtain ⟨gf, hgf⟩ : ∃ x, w3.heap.size = x := ⟨_, rfl⟩
    rw [hgf] at cz
    try rw [hgf]
    generalize w3.alloc (.cells #[.int .i64 0, .int .i64 0, .int .i64 0, .slice none 0 0] 37) = w6 at *
    refine Calls.mono (unhide HER) ?_
    rintro e wx ⟨rfl, rfl⟩
    have HE2 := hide ((unhide HR7).arr rfl)
    clear HER HR7
    go_wp2_with (first
      | (refine wpList_store_row rfl 37 _ _ rfl w.heap.size ([.int .i64 0, .int .i64 0, .int .i64 0, .slice none 0 0] : List Value).toArray rfl rfl 37 ([.int .i64 0, .int .i64 0, .int .i64 0, .slice none 0 0] : List Value).toArray (unhide HE2) z37 rfl (one37' 0 0 0) ?_))
    all_goals (first
      | (exfalso; omega)
      | (refine bodyPost_ret (results_row_tmp Tryd.results26 _ _ w.heap.size 37 ([.int .i64 0, .int .i64 0, .int .i64 0, .slice none 0 0] : List Value).toArray (0, 0) _ rfl (setRow_heap _ _ _ _ _ _ (unhide HE2)) Tryd.underlying37 rfl z37) rfl ⟨rfl, ?_⟩
         exact Below.trans (unhide HB7) ⟨rfl, rfl, rfl, by simp [World.setRow], fun k hk => setRow_other _ _ _ _ (by omega)⟩)
      | (exfalso; simp at *; omega))
end Go.Proofs.YthhpnakgiammiaaDoor

namespace Go.Proofs.YthhpnakgiammiaaDoor.Oct
set_option linter.unusedVariables false
set_option linter.unusedSimpArgs false
open Go.ChangeShapes Go.WideShapes Go.ChangeAt Go.RowKit Go.Joins

theorem num_high (l : List Nat) (h8 : 8 ≤ l.length) (h256 : ∀ y ∈ l, y < 256) (y : Nat) (hy : l[0]? = some y) : 9223372036854775807 < numOf (l.take 8) ↔ 127 < y := by
  match l, h8 with
  | a0 :: a1 :: a2 :: a3 :: a4 :: a5 :: a6 :: a7 :: t, _ =>
    simp at hy
    subst hy
    have h0 := h256 a0 (by simp)
    have h1 := h256 a1 (by simp)
    have h2 := h256 a2 (by simp)
    have h3 := h256 a3 (by simp)
    have h4 := h256 a4 (by simp)
    have h5 := h256 a5 (by simp)
    have h6 := h256 a6 (by simp)
    have h7 := h256 a7 (by simp)
    simp [numOf]
    omega

def refNum (l : List Nat) : Nat × Int :=
  if l.length < 8 then (0, 2) else if 9223372036854775807 < numOf (l.take 8) then (0, 5) else (numOf (l.take 8), 0)

set_option maxRecDepth 100000 in
set_option maxHeartbeats 2000000 in
theorem refnum_any (v : Value) (l : List Nat) (w : World) (hv : Byt w v l) (hl : l.length ≤ 1000000000) (h256 : ∀ y ∈ l, y < 256) :
    Calls Tryd.prog 62 #[v] w fun e w' => e = .returned (.tuple #[.int .i64 ((refNum l).1 : Int), .int .i64 (refNum l).2]) ∧ w = w' := by
  by_cases h8 : l.length < 8
  · obtain ⟨a, cap, rfl⟩ := byt_shape hv
    have e1 : refNum l = (0, 2) := by simp [refNum, h8]
    rw [e1]
    generalize l.length = n at *
    have g1 : (n : Int) < 8 := by omega
    clear hv h256 e1
    go_enter Tryd.func62, Tryd.ntmps62
    go_wp2_with fail
    go_ret2
    exact ⟨rfl, rfl⟩
  rcases hv with ⟨_, rfl⟩ | ⟨a, cap, rfl, c1, c2, c3⟩
  · simp at h8
  obtain ⟨b, off, rfl⟩ := plain_of c3 (by omega)
  obtain ⟨y0, hy0⟩ : ∃ y, l[0]? = some y := ⟨_, List.getElem?_eq_getElem (by omega)⟩
  have hcell0 := c3 0 y0 hy0
  rw [add_plain, Nat.add_zero] at hcell0
  have hh := num_high l (by omega) h256 y0 hy0
  obtain ⟨n, hn⟩ : ∃ n, l.length = n := ⟨_, rfl⟩
  rw [hn] at h8 hl c1 ⊢
  have g1 : ¬ (n : Int) < 8 := by omega
  have g1' : (8 : Int) ≤ (n : Int) := by omega
  have HN := hide hn
  have HC := hide c3
  have H256 := hide h256
  clear c3 h256 hy0 hn
  by_cases hb : 127 < y0
  · have e1 : refNum l = (0, 5) := by
      unfold refNum
      rw [if_neg (by rw [unhide HN]; omega), if_pos (hh.2 hb)]
    rw [e1]
    have g2 : (127 : Int) < (y0 : Int) := by omega
    have g3 : (0 : Int) < (n : Int) := by omega
    clear hh e1
    go_enter Tryd.func62, Tryd.ntmps62
    go_wp2_with fail
    go_ret2
    exact ⟨rfl, rfl⟩
  · have hle : numOf (l.take 8) ≤ 9223372036854775807 := by
      have := mt hh.1 hb
      omega
    have e1 : refNum l = (numOf (l.take 8), 0) := by
      unfold refNum
      rw [if_neg (by rw [unhide HN]; omega), if_neg (by omega)]
    rw [e1]
    have g2 : ¬ (127 : Int) < (y0 : Int) := by omega
    have g3 : (0 : Int) < (n : Int) := by omega
    have HLE := hide hle
    clear hh e1 hle
    go_enter Tryd.func62, Tryd.ntmps62
    go_wp2_with fail
    go_loop [4, 13] (fun c i => ∃ j : Nat, j ≤ 8 ∧ i = .int .i64 j ∧ c = .int .i64 ((numOf (l.take j) : Nat) : Int)) (fun _ i => 8 - (intOf i).toNat)
    case atStart => exact ⟨0, by omega, rfl, rfl⟩
    case round =>
      obtain ⟨j, hj, rfl, rfl⟩ := hrel
      by_cases hlt : j < 8
      · have hlt1 : numOf (l.take (j + 1)) ≤ 9223372036854775807 := by
          by_cases h7 : j = 7
          · subst h7; exact unhide HLE
          · have q := numOf_lt (l.take (j + 1)) (fun y hy => unhide H256 y (List.mem_of_mem_take hy))
            have : 256 ^ (l.take (j + 1)).length ≤ 256 ^ 7 := Nat.pow_le_pow_right (by decide) (by rw [List.length_take]; omega)
            have e : (256 : Nat) ^ 7 = 72057594037927936 := by decide
            omega
        obtain ⟨y, hy⟩ : ∃ y, l[j]? = some y := ⟨_, List.getElem?_eq_getElem (by rw [unhide HN]; omega)⟩
        have hcell := unhide HC j y hy
        rw [add_plain] at hcell
        have hy256 := unhide H256 y (List.mem_of_getElem? hy)
        have hnx := numOf_take hy
        have HNX := hide hnx
        rw [hnx] at hlt1
        clear hnx hy hcell0
        generalize numOf (l.take j) = c at *
        have i1 : (0 : Int) ≤ (j : Int) := by omega
        have i2 : (j : Int) < 8 := by omega
        have i3 : (j : Int) < (n : Int) := by omega
        go_wp2_with fail
        go_round
        case rel => exact ⟨j + 1, by omega, by go_num, by rw [unhide HNX]; go_num⟩
        case measure => simp [intOf]; omega
      · have hj8 : j = 8 := by omega
        subst hj8
        go_wp2_with fail
        go_ret2
        exact ⟨rfl, rfl⟩

/-- the reference's reader in block g -/
def RRd (w : World) (g : Nat) (v : Value) (k : Nat) (e : Int) : Prop := RowAt w g 66 [v, .int .i64 (k : Int), .int .i64 e]
set_option maxRecDepth 100000 in
theorem rnum_err (g : Nat) (v : Value) (k : Nat) (e0 : Int) (w : World) (hr : RRd w g v k e0) (he : ¬ e0 = 0) :
    Calls Tryd.prog 49 #[.pointer (some ⟨g, 0, none⟩)] w fun e w' => e = .returned (.int .i64 0) ∧ w = w' := by
  have c2 : w.cell? ⟨g, 2, none⟩ = some (.int .i64 e0) := RowAt.cell hr 2
  clear hr
  go_enter Tryd.func49, Tryd.ntmps49
  go_wp2_with fail
  all_goals (first
    | (exfalso; omega)
    | (go_ret; exact ⟨rfl, rfl⟩)
    | (exfalso; simp at *; omega))
set_option maxRecDepth 100000 in
set_option maxHeartbeats 2000000 in
theorem rnum_any (g : Nat) (a : Addr) (n cap : Nat) (l : List Nat) (k : Nat) (w : World) (hv : Byt w (.slice (some a) n cap) l) (hr : RRd w g (.slice (some a) n cap) k 0) (hln : l.length = n) (hl : n ≤ 1000000000) (hk : k + 8 ≤ n) (hc : n ≤ cap) (h256 : ∀ y ∈ l, y < 256) :
    Calls Tryd.prog 49 #[.pointer (some ⟨g, 0, none⟩)] w fun e w' => Only (· = g) w w' ∧ (numOf ((l.drop k).take 8) ≤ 9223372036854775807 → e = .returned (.int .i64 (numOf ((l.drop k).take 8) : Int)) ∧ RRd w' g (.slice (some a) n cap) (k + 8) 0) ∧
      (9223372036854775807 < numOf ((l.drop k).take 8) → e = .returned (.int .i64 0) ∧ RRd w' g (.slice (some a) n cap) k 5) := by
  have c0 : w.cell? ⟨g, 0, none⟩ = some (.slice (some a) n cap) := RowAt.cell hr 0
  have c1 : w.cell? ⟨g, 1, none⟩ = some (.int .i64 (k : Int)) := RowAt.cell hr 1
  have c2 : w.cell? ⟨g, 2, none⟩ = some (.int .i64 0) := RowAt.cell hr 2
  have z1 := RowAt.frozen hr 1
  have z2 := RowAt.frozen hr 2
  have hn8 : ¬ (l.drop k).length < 8 := by rw [List.length_drop]; omega
  have hnum := refnum_any (.slice (some (a.add k)) (n - k) (cap - k)) (l.drop k) w.drew ((hv.call ((Below.refl _ _).drew)).drop k (by omega)) (by rw [List.length_drop]; omega) (fun y hy => h256 y (List.mem_of_mem_drop hy))
  have s1 := RowAt.set (RowAt.drew hr) 1 (.int .i64 ((k + 8 : Nat) : Int))
  have s2 := RowAt.set (RowAt.drew hr) 2 (.int .i64 5)
  have S1 : Hid (RRd (w.drew.setCell ⟨g, 1, none⟩ (.int .i64 ((k + 8 : Nat) : Int))) g (.slice (some a) n cap) (k + 8) 0) := hide s1
  have S2 : Hid (RRd (w.drew.setCell ⟨g, 2, none⟩ (.int .i64 5)) g (.slice (some a) n cap) k 5) := hide s2
  have k0 : (0 : Int) ≤ (k : Int) := by omega
  have k1 : (k : Int) ≤ (n : Int) := by omega
  have k2 : k ≤ n := by omega
  have k3 : ¬ cap = k := by omega
  have k4 : (k : Int) + 8 ≤ 1000000000 := by omega
  by_cases hb : 9223372036854775807 < numOf ((l.drop k).take 8)
  · rw [show refNum (l.drop k) = (0, 5) by unfold refNum; rw [if_neg hn8, if_pos hb]] at hnum
    have HN := hide hnum
    have HBD := hide hb
    clear hv hr hnum hb hn8 s1 s2 h256
    go_enter Tryd.func49, Tryd.ntmps49
    go_wp2_with fail
    go_region_held (fun w' => w'.cell? ⟨g, 0, none⟩ = some (.slice (some a) n cap) ∧ w'.cell? ⟨g, 1, none⟩ = some (.int .i64 (k : Int)))
      (exact ⟨c0, c1⟩)
      (first
        | (go_at_call 62; refine Calls.mono (unhide HN) ?_; rintro e wx ⟨rfl, rfl⟩))
    go_wp2_with fail
    go_ret
    exact ⟨(Only.refl _ w).drew.set g 2 _ rfl, fun h => by have := unhide HBD; omega, fun _ => ⟨rfl, unhide S2⟩⟩
  · rw [show refNum (l.drop k) = (numOf ((l.drop k).take 8), 0) by unfold refNum; rw [if_neg hn8, if_neg hb]] at hnum
    have HN := hide hnum
    have HBD := hide hb
    obtain ⟨U, hU⟩ : ∃ x, numOf ((l.drop k).take 8) = x := ⟨_, rfl⟩
    rw [hU] at HN HBD ⊢
    clear hv hr hnum hb hn8 s1 s2 h256 hU
    go_enter Tryd.func49, Tryd.ntmps49
    go_wp2_with fail
    go_region_held (fun w' => w'.cell? ⟨g, 0, none⟩ = some (.slice (some a) n cap) ∧ w'.cell? ⟨g, 1, none⟩ = some (.int .i64 (k : Int)))
      (exact ⟨c0, c1⟩)
      (first
        | (go_at_call 62; refine Calls.mono (unhide HN) ?_; rintro e wx ⟨rfl, rfl⟩))
    go_wp2_with fail
    go_ret
    exact ⟨(Only.refl _ w).drew.set g 1 _ rfl, fun _ => ⟨rfl, unhide S1⟩, fun h => absurd h (unhide HBD)⟩
end Go.Proofs.YthhpnakgiammiaaDoor.Oct

namespace Go.Proofs.YthhpnakgiammiaaDoor
set_option linter.unusedVariables false
set_option linter.unusedSimpArgs false
open Go.ChangeShapes Go.WideShapes Go.ChangeAt Go.RowKit Go.Joins

set_option maxRecDepth 100000 in
set_option maxHeartbeats 4000000 in
theorem rpeek_len (a : Option Addr) (n cap : Nat) (w : World) (hnb : n ≤ 1000000) (h : n < 40 ∨ 16360 < n) :
    Calls Tryd.prog 27 #[.slice a n cap] w fun e w' => e = .returned (.tuple #[frV 0 0 0 (.slice none 0 0), .int .i64 120]) ∧ Below w.heap.size w w' := by
  have hR := RowAt.new w 37 [.int .i64 0, .int .i64 0, .int .i64 0, .slice none 0 0]
  have HE2 := hide (hR.arr rfl)
  have HB7 : Hid (Below w.heap.size w (w.alloc (.cells #[.int .i64 0, .int .i64 0, .int .i64 0, .slice none 0 0] 37))) := hide ((Below.refl _ _).alloc (Nat.le_refl _) _)
  clear hR
  rcases h with h | h
  · have h1 : (n : Int) < 40 := by omega
    go_enter Tryd.func27, Tryd.ntmps27
    go_wp2_with fail
    exact bodyPost_ret (results_row_tmp Tryd.results27 _ _ w.heap.size 37 ([.int .i64 0, .int .i64 0, .int .i64 0, .slice none 0 0] : List Value).toArray (0, 0) _ rfl (unhide HE2) Tryd.underlying37 rfl z37) rfl ⟨rfl, unhide HB7⟩
  · have h1 : ¬ (n : Int) < 40 := by omega
    have h2 : (16360 : Int) < (n : Int) := by omega
    go_enter Tryd.func27, Tryd.ntmps27
    go_wp2_with fail
    exact bodyPost_ret (results_row_tmp Tryd.results27 _ _ w.heap.size 37 ([.int .i64 0, .int .i64 0, .int .i64 0, .slice none 0 0] : List Value).toArray (0, 0) _ rfl (unhide HE2) Tryd.underlying37 rfl z37) rfl ⟨rfl, unhide HB7⟩

theorem nx_iff (l24 : List Nat) (k : Nat) (lo hi : Int) (h : l24.length = 24) (hk : k + 8 ≤ 24) : Oct.Nx l24 k lo hi ↔ Oct.numOf ((l24.drop k).take 8) ≤ 9223372036854775807 ∧ lo ≤ (Oct.numOf ((l24.drop k).take 8) : Int) ∧ (Oct.numOf ((l24.drop k).take 8) : Int) ≤ hi := by
  unfold Oct.Nx
  rw [h]
  exact ⟨fun q => q.2, fun q => ⟨hk, q⟩⟩
set_option maxRecDepth 100000 in
set_option maxHeartbeats 8000000 in
theorem rpeek_bad (a : Addr) (n cap : Nat) (l : List Nat) (w : World) (hv : Byt w (.slice (some a) n cap) l) (h8 : U8 l) (hn : l.length = n) (h40 : 40 ≤ n) (hn2 : n ≤ 16360) (hbad : ¬ PkOk l n) :
    Calls Tryd.prog 27 #[.slice (some a) n cap] w fun e w' => e = .returned (.tuple #[frV 0 0 0 (.slice none 0 0), .int .i64 120]) ∧ Below w.heap.size w w' := by
  have h1 : ¬ (n : Int) < 40 := by omega
  have h2 : ¬ (16360 : Int) < (n : Int) := by omega
  have hcap : n ≤ cap := by
    rcases hv with ⟨e, _⟩ | ⟨a', c', e, h1, _⟩
    · cases e
    · injection e with e1 e2 e3; omega
  have hcI : (24 : Int) ≤ (cap : Int) := by omega
  have halt : a.block < w.heap.size := by
    rcases hv with ⟨e, _⟩ | ⟨a', c', e, _, _, h3⟩
    · cases e
    · injection e with e1 e2 e3
      injection e1 with e1
      subst e1
      have := lt_of_cell (h3 0 _ (List.getElem?_eq_getElem (by omega)))
      rw [add_block] at this
      exact this
  have b1 : Below w.heap.size w (w.alloc (.cells #[.int .i64 0, .int .i64 0, .int .i64 0, .slice none 0 0] 37)) := (Below.refl _ _).alloc (Nat.le_refl _) _
  have hR := RowAt.new w 37 [.int .i64 0, .int .i64 0, .int .i64 0, .slice none 0 0]
  have hs1 : (w.alloc (.cells #[.int .i64 0, .int .i64 0, .int .i64 0, .slice none 0 0] 37)).heap.size = w.heap.size + 1 := csize_alloc _ _
  have b2 : Below (w.alloc (.cells #[.int .i64 0, .int .i64 0, .int .i64 0, .slice none 0 0] 37)).heap.size (w.alloc (.cells #[.int .i64 0, .int .i64 0, .int .i64 0, .slice none 0 0] 37)) ((w.alloc (.cells #[.int .i64 0, .int .i64 0, .int .i64 0, .slice none 0 0] 37)).alloc (.cells #[.slice (some a) 24 cap, .int .i64 0, .int .i64 0] 66)) := (Below.refl _ _).alloc (Nat.le_refl _) _
  have hr : Oct.RRd ((w.alloc (.cells #[.int .i64 0, .int .i64 0, .int .i64 0, .slice none 0 0] 37)).alloc (.cells #[.slice (some a) 24 cap, .int .i64 0, .int .i64 0] 66)) (w.heap.size + 1) (.slice (some a) 24 cap) 0 0 := by
    have := RowAt.new (w.alloc (.cells #[.int .i64 0, .int .i64 0, .int .i64 0, .slice none 0 0] 37)) 66 [.slice (some a) 24 cap, .int .i64 ((0 : Nat) : Int), .int .i64 0]
    rw [hs1] at this
    exact this
  have HRR := hide hr
  have HR2 := hide (hR.below b2 hR.lt)
  have B2 := b1.trans (b2.mono b1.size)
  have HB2 := hide B2
  have HY2 := hide ((hv.call B2).take 24 (by omega))
  have HL24 : Hid ((l.take 24).length = 24) := hide (by rw [List.length_take]; omega)
  have H256 : Hid (∀ y ∈ l.take 24, y < 256) := hide (fun y hy => h8 y (List.mem_of_mem_take hy))
  have HOF : Hid (Off (.slice (some a) 24 cap) (· = w.heap.size + 1)) := hide (fun k hk e => by simp [Value.ownBlock] at hk; omega)
  have hD : ¬ (Oct.numOf (((l.take 24).drop 0).take 8) ≤ 9223372036854775807 ∧ Oct.numOf (((l.take 24).drop 8).take 8) ≤ 9223372036854775807 ∧ Oct.numOf (((l.take 24).drop 16).take 8) ≤ 9223372036854775807 ∧ 1 ≤ Oct.numOf (((l.take 24).drop 0).take 8) ∧ Oct.numOf (((l.take 24).drop 0).take 8) ≤ 1099511627776 ∧ Oct.numOf (((l.take 24).drop 8).take 8) ≤ 1099511627776 ∧ Oct.numOf (((l.take 24).drop 16).take 8) ≤ 1099511627776 ∧ (Oct.numOf (((l.take 24).drop 8).take 8) = 0 ↔ n = 40)) := by
    intro h
    apply hbad
    unfold PkOk pkS
    rw [nx_iff _ _ _ _ (unhide HL24) (by omega), nx_iff _ _ _ _ (unhide HL24) (by omega), nx_iff _ _ _ _ (unhide HL24) (by omega)]
    omega
  generalize l.take 24 = l24 at *
  obtain ⟨c, hc⟩ : ∃ x, Oct.numOf ((l24.drop 0).take 8) = x := ⟨_, rfl⟩
  obtain ⟨s, hs⟩ : ∃ x, Oct.numOf ((l24.drop 8).take 8) = x := ⟨_, rfl⟩
  obtain ⟨k, hk⟩ : ∃ x, Oct.numOf ((l24.drop 16).take 8) = x := ⟨_, rfl⟩
  rw [hc, hs, hk] at hD
  have HU0 := hide hc
  have HU1 := hide hs
  have HU2 := hide hk
  have HRRw2 := HRR
  have HYw2 := HY2
  have HRw2 := HR2
  have HBw2 := HB2
  clear hv h8 hR b1 b2 hr hs1 B2 hc hs hk hbad HRR HY2 HR2 HB2
  by_cases g0 : c ≤ 9223372036854775807
  · have HL0 := hide g0
    by_cases g1 : s ≤ 9223372036854775807
    · have HL1 := hide g1
      by_cases g2 : k ≤ 9223372036854775807
      · have HL2 := hide g2
        have HDD := hide hD
        clear hD
        go_enter Tryd.func27, Tryd.ntmps27
        go_wp2_with fail
        generalize (w.alloc (.cells #[.int .i64 0, .int .i64 0, .int .i64 0, .slice none 0 0] 37)).alloc (.cells #[.slice (some a) 24 cap, .int .i64 0, .int .i64 0] 66) = w2 at *
        have hX := Oct.rnum_any (w.heap.size + 1) a 24 cap l24 0 w2 (unhide HYw2) (unhide HRRw2) (unhide HL24) (by omega) (by omega) (by omega) (unhide H256)
        rw [unhide HU0] at hX
        have HX := hide hX
        clear hX
        go_wp2_with fail
        refine Calls.mono (unhide HX) ?_
        rintro e w3 ⟨oo, q1, q2⟩
        obtain ⟨rfl, rr⟩ := q1 (unhide HL0)
        have HRRw3 := hide rr
        have HYw3 := hide (oo.byt (unhide HYw2) (unhide HOF))
        have HRw3 := hide ((unhide HRw2).only oo (by omega))
        have HBw3 := hide ((unhide HBw2).trans (oo.below (unhide HBw2).size (fun k hk => by omega)))
        clear rr oo q1 q2 HX HRRw2 HYw2 HRw2 HBw2
        have hX := Oct.rnum_any (w.heap.size + 1) a 24 cap l24 8 w3 (unhide HYw3) (unhide HRRw3) (unhide HL24) (by omega) (by omega) (by omega) (unhide H256)
        rw [unhide HU1] at hX
        have HX := hide hX
        clear hX
        go_wp2_with fail
        refine Calls.mono (unhide HX) ?_
        rintro e w4 ⟨oo, q1, q2⟩
        obtain ⟨rfl, rr⟩ := q1 (unhide HL1)
        have HRRw4 := hide rr
        have HYw4 := hide (oo.byt (unhide HYw3) (unhide HOF))
        have HRw4 := hide ((unhide HRw3).only oo (by omega))
        have HBw4 := hide ((unhide HBw3).trans (oo.below (unhide HBw3).size (fun k hk => by omega)))
        clear rr oo q1 q2 HX HRRw3 HYw3 HRw3 HBw3
        have hX := Oct.rnum_any (w.heap.size + 1) a 24 cap l24 16 w4 (unhide HYw4) (unhide HRRw4) (unhide HL24) (by omega) (by omega) (by omega) (unhide H256)
        rw [unhide HU2] at hX
        have HX := hide hX
        clear hX
        go_wp2_with fail
        refine Calls.mono (unhide HX) ?_
        rintro e w5 ⟨oo, q1, q2⟩
        obtain ⟨rfl, rr⟩ := q1 (unhide HL2)
        have HRRw5 := hide rr
        have HYw5 := hide (oo.byt (unhide HYw4) (unhide HOF))
        have HRw5 := hide ((unhide HRw4).only oo (by omega))
        have HBw5 := hide ((unhide HBw4).trans (oo.below (unhide HBw4).size (fun k hk => by omega)))
        clear rr oo q1 q2 HX HRRw4 HYw4 HRw4 HBw4
        have b6 : Below w5.heap.size w5 (w5.alloc (.cells #[.int .i64 (c : Int), .int .i64 (s : Int), .int .i64 (k : Int), .slice none 0 0] 37)) := (Below.refl _ _).alloc (Nat.le_refl _) _
        have R6 := (unhide HRRw5).below b6 (unhide HRRw5).lt
        have ce : (w5.alloc (.cells #[.int .i64 (c : Int), .int .i64 (s : Int), .int .i64 (k : Int), .slice none 0 0] 37)).cell? ⟨w.heap.size + 1, 2, none⟩ = some (.int .i64 0) := R6.cell 2
        have F6 := RowAt.new w5 37 [.int .i64 (c : Int), .int .i64 (s : Int), .int .i64 (k : Int), .slice none 0 0]
        have f0 := F6.cell 0
        have f1 := F6.cell 1
        have f2 := F6.cell 2
        have HF6 := hide F6
        have HE2 := hide (((unhide HRw5).below b6 (unhide HRw5).lt).arr rfl)
        have HB7 := hide ((unhide HBw5).trans (b6.mono (unhide HBw5).size))
        have HGF : Hid (w.heap.size < w5.heap.size) := hide (unhide HRw5).lt
        clear b6 R6 F6 HRRw5 HYw5 HRw5 HBw5
        have hD := unhide HDD
        have hD2 : c < 1 ∨ 1099511627776 < c ∨ 1099511627776 < s ∨ 1099511627776 < k ∨ (s = 0 ∧ 40 < n) ∨ (0 < s ∧ n = 40) := by omega
        clear hD HDD
        rcases hD2 with h | h | h | h | ⟨h, h'⟩ | ⟨h, h'⟩
        · have hI : (c : Int) < 1 := by omega
          go_upto_if 70 with fail
          go_wp2_with (first
            | (refine wpList_store_row rfl 37 _ _ rfl w.heap.size ([.int .i64 0, .int .i64 0, .int .i64 0, .slice none 0 0] : List Value).toArray rfl rfl 37 ([.int .i64 0, .int .i64 0, .int .i64 0, .slice none 0 0] : List Value).toArray (unhide HE2) z37 rfl (one37' 0 0 0) ?_))
          all_goals (first
            | (exfalso; omega)
            | (refine bodyPost_ret (results_row_tmp Tryd.results27 _ _ w.heap.size 37 ([.int .i64 0, .int .i64 0, .int .i64 0, .slice none 0 0] : List Value).toArray (0, 0) _ rfl (setRow_heap _ _ _ _ _ _ (unhide HE2)) Tryd.underlying37 rfl z37) rfl ⟨rfl, ?_⟩
               exact Below.trans (unhide HB7) ⟨rfl, rfl, rfl, by simp [World.setRow], fun k hk => setRow_other _ _ _ _ (by omega)⟩)
            | (exfalso; simp at *; omega))
        · have hI : (1099511627776 : Int) < (c : Int) := by omega
          go_upto_if 70 with fail
          go_wp2_with (first
            | (refine wpList_store_row rfl 37 _ _ rfl w.heap.size ([.int .i64 0, .int .i64 0, .int .i64 0, .slice none 0 0] : List Value).toArray rfl rfl 37 ([.int .i64 0, .int .i64 0, .int .i64 0, .slice none 0 0] : List Value).toArray (unhide HE2) z37 rfl (one37' 0 0 0) ?_))
          all_goals (first
            | (exfalso; omega)
            | (refine bodyPost_ret (results_row_tmp Tryd.results27 _ _ w.heap.size 37 ([.int .i64 0, .int .i64 0, .int .i64 0, .slice none 0 0] : List Value).toArray (0, 0) _ rfl (setRow_heap _ _ _ _ _ _ (unhide HE2)) Tryd.underlying37 rfl z37) rfl ⟨rfl, ?_⟩
               exact Below.trans (unhide HB7) ⟨rfl, rfl, rfl, by simp [World.setRow], fun k hk => setRow_other _ _ _ _ (by omega)⟩)
            | (exfalso; simp at *; omega))
        · have hI : (1099511627776 : Int) < (s : Int) := by omega
          go_upto_if 70 with fail
          go_wp2_with (first
            | (refine wpList_store_row rfl 37 _ _ rfl w.heap.size ([.int .i64 0, .int .i64 0, .int .i64 0, .slice none 0 0] : List Value).toArray rfl rfl 37 ([.int .i64 0, .int .i64 0, .int .i64 0, .slice none 0 0] : List Value).toArray (unhide HE2) z37 rfl (one37' 0 0 0) ?_))
          all_goals (first
            | (exfalso; omega)
            | (refine bodyPost_ret (results_row_tmp Tryd.results27 _ _ w.heap.size 37 ([.int .i64 0, .int .i64 0, .int .i64 0, .slice none 0 0] : List Value).toArray (0, 0) _ rfl (setRow_heap _ _ _ _ _ _ (unhide HE2)) Tryd.underlying37 rfl z37) rfl ⟨rfl, ?_⟩
               exact Below.trans (unhide HB7) ⟨rfl, rfl, rfl, by simp [World.setRow], fun k hk => setRow_other _ _ _ _ (by omega)⟩)
            | (exfalso; simp at *; omega))
        · have hI : (1099511627776 : Int) < (k : Int) := by omega
          go_upto_if 70 with fail
          go_wp2_with (first
            | (refine wpList_store_row rfl 37 _ _ rfl w.heap.size ([.int .i64 0, .int .i64 0, .int .i64 0, .slice none 0 0] : List Value).toArray rfl rfl 37 ([.int .i64 0, .int .i64 0, .int .i64 0, .slice none 0 0] : List Value).toArray (unhide HE2) z37 rfl (one37' 0 0 0) ?_))
          all_goals (first
            | (exfalso; omega)
            | (refine bodyPost_ret (results_row_tmp Tryd.results27 _ _ w.heap.size 37 ([.int .i64 0, .int .i64 0, .int .i64 0, .slice none 0 0] : List Value).toArray (0, 0) _ rfl (setRow_heap _ _ _ _ _ _ (unhide HE2)) Tryd.underlying37 rfl z37) rfl ⟨rfl, ?_⟩
               exact Below.trans (unhide HB7) ⟨rfl, rfl, rfl, by simp [World.setRow], fun k hk => setRow_other _ _ _ _ (by omega)⟩)
            | (exfalso; simp at *; omega))
        · have hbe : ((s : Int) == 0) = true := by simp [h]
          have hI' : (40 : Int) < (n : Int) := by omega
          clear h
          go_upto_if 70 with fail
          go_wp2_with (first
            | (refine wpList_store_row rfl 37 _ _ rfl w.heap.size ([.int .i64 0, .int .i64 0, .int .i64 0, .slice none 0 0] : List Value).toArray rfl rfl 37 ([.int .i64 0, .int .i64 0, .int .i64 0, .slice none 0 0] : List Value).toArray (unhide HE2) z37 rfl (one37' 0 0 0) ?_))
          all_goals (first
            | (exfalso; omega)
            | (refine bodyPost_ret (results_row_tmp Tryd.results27 _ _ w.heap.size 37 ([.int .i64 0, .int .i64 0, .int .i64 0, .slice none 0 0] : List Value).toArray (0, 0) _ rfl (setRow_heap _ _ _ _ _ _ (unhide HE2)) Tryd.underlying37 rfl z37) rfl ⟨rfl, ?_⟩
               exact Below.trans (unhide HB7) ⟨rfl, rfl, rfl, by simp [World.setRow], fun k hk => setRow_other _ _ _ _ (by omega)⟩)
            | (exfalso; simp at *; omega))
        · have hI : (0 : Int) < (s : Int) := by omega
          have hI0 : ¬ (s : Int) = 0 := by omega
          have hI' : (n : Int) = 40 := by omega
          go_upto_if 70 with fail
          go_wp2_with (first
            | (refine wpList_store_row rfl 37 _ _ rfl w.heap.size ([.int .i64 0, .int .i64 0, .int .i64 0, .slice none 0 0] : List Value).toArray rfl rfl 37 ([.int .i64 0, .int .i64 0, .int .i64 0, .slice none 0 0] : List Value).toArray (unhide HE2) z37 rfl (one37' 0 0 0) ?_))
          all_goals (first
            | (exfalso; omega)
            | (refine bodyPost_ret (results_row_tmp Tryd.results27 _ _ w.heap.size 37 ([.int .i64 0, .int .i64 0, .int .i64 0, .slice none 0 0] : List Value).toArray (0, 0) _ rfl (setRow_heap _ _ _ _ _ _ (unhide HE2)) Tryd.underlying37 rfl z37) rfl ⟨rfl, ?_⟩
               exact Below.trans (unhide HB7) ⟨rfl, rfl, rfl, by simp [World.setRow], fun k hk => setRow_other _ _ _ _ (by omega)⟩)
            | (exfalso; simp at *; omega))
      · have HL2 : Hid (9223372036854775807 < k) := hide (by omega)
        clear hD g0 g1 g2
        go_enter Tryd.func27, Tryd.ntmps27
        go_wp2_with fail
        generalize (w.alloc (.cells #[.int .i64 0, .int .i64 0, .int .i64 0, .slice none 0 0] 37)).alloc (.cells #[.slice (some a) 24 cap, .int .i64 0, .int .i64 0] 66) = w2 at *
        have hX := Oct.rnum_any (w.heap.size + 1) a 24 cap l24 0 w2 (unhide HYw2) (unhide HRRw2) (unhide HL24) (by omega) (by omega) (by omega) (unhide H256)
        rw [unhide HU0] at hX
        have HX := hide hX
        clear hX
        go_wp2_with fail
        refine Calls.mono (unhide HX) ?_
        rintro e w3 ⟨oo, q1, q2⟩
        obtain ⟨rfl, rr⟩ := q1 (unhide HL0)
        have HRRw3 := hide rr
        have HYw3 := hide (oo.byt (unhide HYw2) (unhide HOF))
        have HRw3 := hide ((unhide HRw2).only oo (by omega))
        have HBw3 := hide ((unhide HBw2).trans (oo.below (unhide HBw2).size (fun k hk => by omega)))
        clear rr oo q1 q2 HX HRRw2 HYw2 HRw2 HBw2
        have hX := Oct.rnum_any (w.heap.size + 1) a 24 cap l24 8 w3 (unhide HYw3) (unhide HRRw3) (unhide HL24) (by omega) (by omega) (by omega) (unhide H256)
        rw [unhide HU1] at hX
        have HX := hide hX
        clear hX
        go_wp2_with fail
        refine Calls.mono (unhide HX) ?_
        rintro e w4 ⟨oo, q1, q2⟩
        obtain ⟨rfl, rr⟩ := q1 (unhide HL1)
        have HRRw4 := hide rr
        have HYw4 := hide (oo.byt (unhide HYw3) (unhide HOF))
        have HRw4 := hide ((unhide HRw3).only oo (by omega))
        have HBw4 := hide ((unhide HBw3).trans (oo.below (unhide HBw3).size (fun k hk => by omega)))
        clear rr oo q1 q2 HX HRRw3 HYw3 HRw3 HBw3
        have hX := Oct.rnum_any (w.heap.size + 1) a 24 cap l24 16 w4 (unhide HYw4) (unhide HRRw4) (unhide HL24) (by omega) (by omega) (by omega) (unhide H256)
        rw [unhide HU2] at hX
        have HX := hide hX
        clear hX
        go_wp2_with fail
        refine Calls.mono (unhide HX) ?_
        rintro e w5 ⟨oo, q1, q2⟩
        obtain ⟨rfl, rr⟩ := q2 (unhide HL2)
        have HRRw5 := hide rr
        have HYw5 := hide (oo.byt (unhide HYw4) (unhide HOF))
        have HRw5 := hide ((unhide HRw4).only oo (by omega))
        have HBw5 := hide ((unhide HBw4).trans (oo.below (unhide HBw4).size (fun k hk => by omega)))
        clear rr oo q1 q2 HX HRRw4 HYw4 HRw4 HBw4
        have b6 : Below w5.heap.size w5 (w5.alloc (.cells #[.int .i64 (c : Int), .int .i64 (s : Int), .int .i64 0, .slice none 0 0] 37)) := (Below.refl _ _).alloc (Nat.le_refl _) _
        have R6 := (unhide HRRw5).below b6 (unhide HRRw5).lt
        have ce : (w5.alloc (.cells #[.int .i64 (c : Int), .int .i64 (s : Int), .int .i64 0, .slice none 0 0] 37)).cell? ⟨w.heap.size + 1, 2, none⟩ = some (.int .i64 5) := R6.cell 2
        have F6 := RowAt.new w5 37 [.int .i64 (c : Int), .int .i64 (s : Int), .int .i64 0, .slice none 0 0]
        have f0 := F6.cell 0
        have f1 := F6.cell 1
        have f2 := F6.cell 2
        have HF6 := hide F6
        have HE2 := hide (((unhide HRw5).below b6 (unhide HRw5).lt).arr rfl)
        have HB7 := hide ((unhide HBw5).trans (b6.mono (unhide HBw5).size))
        have HGF : Hid (w.heap.size < w5.heap.size) := hide (unhide HRw5).lt
        clear b6 R6 F6 HRRw5 HYw5 HRw5 HBw5
        go_upto_if 70 with fail
        go_wp2_with (first
          | (refine wpList_store_row rfl 37 _ _ rfl w.heap.size ([.int .i64 0, .int .i64 0, .int .i64 0, .slice none 0 0] : List Value).toArray rfl rfl 37 ([.int .i64 0, .int .i64 0, .int .i64 0, .slice none 0 0] : List Value).toArray (unhide HE2) z37 rfl (one37' 0 0 0) ?_))
        all_goals (first
          | (exfalso; omega)
          | (refine bodyPost_ret (results_row_tmp Tryd.results27 _ _ w.heap.size 37 ([.int .i64 0, .int .i64 0, .int .i64 0, .slice none 0 0] : List Value).toArray (0, 0) _ rfl (setRow_heap _ _ _ _ _ _ (unhide HE2)) Tryd.underlying37 rfl z37) rfl ⟨rfl, ?_⟩
             exact Below.trans (unhide HB7) ⟨rfl, rfl, rfl, by simp [World.setRow], fun k hk => setRow_other _ _ _ _ (by omega)⟩)
          | (exfalso; simp at *; omega))
    · have HL1 : Hid (9223372036854775807 < s) := hide (by omega)
      clear hD g0 g1
      go_enter Tryd.func27, Tryd.ntmps27
      go_wp2_with fail
      generalize (w.alloc (.cells #[.int .i64 0, .int .i64 0, .int .i64 0, .slice none 0 0] 37)).alloc (.cells #[.slice (some a) 24 cap, .int .i64 0, .int .i64 0] 66) = w2 at *
      have hX := Oct.rnum_any (w.heap.size + 1) a 24 cap l24 0 w2 (unhide HYw2) (unhide HRRw2) (unhide HL24) (by omega) (by omega) (by omega) (unhide H256)
      rw [unhide HU0] at hX
      have HX := hide hX
      clear hX
      go_wp2_with fail
      refine Calls.mono (unhide HX) ?_
      rintro e w3 ⟨oo, q1, q2⟩
      obtain ⟨rfl, rr⟩ := q1 (unhide HL0)
      have HRRw3 := hide rr
      have HYw3 := hide (oo.byt (unhide HYw2) (unhide HOF))
      have HRw3 := hide ((unhide HRw2).only oo (by omega))
      have HBw3 := hide ((unhide HBw2).trans (oo.below (unhide HBw2).size (fun k hk => by omega)))
      clear rr oo q1 q2 HX HRRw2 HYw2 HRw2 HBw2
      have hX := Oct.rnum_any (w.heap.size + 1) a 24 cap l24 8 w3 (unhide HYw3) (unhide HRRw3) (unhide HL24) (by omega) (by omega) (by omega) (unhide H256)
      rw [unhide HU1] at hX
      have HX := hide hX
      clear hX
      go_wp2_with fail
      refine Calls.mono (unhide HX) ?_
      rintro e w4 ⟨oo, q1, q2⟩
      obtain ⟨rfl, rr⟩ := q2 (unhide HL1)
      have HRRw4 := hide rr
      have HYw4 := hide (oo.byt (unhide HYw3) (unhide HOF))
      have HRw4 := hide ((unhide HRw3).only oo (by omega))
      have HBw4 := hide ((unhide HBw3).trans (oo.below (unhide HBw3).size (fun k hk => by omega)))
      clear rr oo q1 q2 HX HRRw3 HYw3 HRw3 HBw3
      have HX := hide (Oct.rnum_err (w.heap.size + 1) _ _ 5 w4 (unhide HRRw4) (by decide))
      go_wp2_with fail
      refine Calls.mono (unhide HX) ?_
      rintro e wx ⟨rfl, rfl⟩
      clear HX
      have b6 : Below w4.heap.size w4 (w4.alloc (.cells #[.int .i64 (c : Int), .int .i64 0, .int .i64 0, .slice none 0 0] 37)) := (Below.refl _ _).alloc (Nat.le_refl _) _
      have R6 := (unhide HRRw4).below b6 (unhide HRRw4).lt
      have ce : (w4.alloc (.cells #[.int .i64 (c : Int), .int .i64 0, .int .i64 0, .slice none 0 0] 37)).cell? ⟨w.heap.size + 1, 2, none⟩ = some (.int .i64 5) := R6.cell 2
      have F6 := RowAt.new w4 37 [.int .i64 (c : Int), .int .i64 0, .int .i64 0, .slice none 0 0]
      have f0 := F6.cell 0
      have f1 := F6.cell 1
      have f2 := F6.cell 2
      have HF6 := hide F6
      have HE2 := hide (((unhide HRw4).below b6 (unhide HRw4).lt).arr rfl)
      have HB7 := hide ((unhide HBw4).trans (b6.mono (unhide HBw4).size))
      have HGF : Hid (w.heap.size < w4.heap.size) := hide (unhide HRw4).lt
      clear b6 R6 F6 HRRw4 HYw4 HRw4 HBw4
      go_upto_if 70 with fail
      go_wp2_with (first
        | (refine wpList_store_row rfl 37 _ _ rfl w.heap.size ([.int .i64 0, .int .i64 0, .int .i64 0, .slice none 0 0] : List Value).toArray rfl rfl 37 ([.int .i64 0, .int .i64 0, .int .i64 0, .slice none 0 0] : List Value).toArray (unhide HE2) z37 rfl (one37' 0 0 0) ?_))
      all_goals (first
        | (exfalso; omega)
        | (refine bodyPost_ret (results_row_tmp Tryd.results27 _ _ w.heap.size 37 ([.int .i64 0, .int .i64 0, .int .i64 0, .slice none 0 0] : List Value).toArray (0, 0) _ rfl (setRow_heap _ _ _ _ _ _ (unhide HE2)) Tryd.underlying37 rfl z37) rfl ⟨rfl, ?_⟩
           exact Below.trans (unhide HB7) ⟨rfl, rfl, rfl, by simp [World.setRow], fun k hk => setRow_other _ _ _ _ (by omega)⟩)
        | (exfalso; simp at *; omega))
  · have HL0 : Hid (9223372036854775807 < c) := hide (by omega)
    clear hD g0
    go_enter Tryd.func27, Tryd.ntmps27
    go_wp2_with fail
    generalize (w.alloc (.cells #[.int .i64 0, .int .i64 0, .int .i64 0, .slice none 0 0] 37)).alloc (.cells #[.slice (some a) 24 cap, .int .i64 0, .int .i64 0] 66) = w2 at *
    have hX := Oct.rnum_any (w.heap.size + 1) a 24 cap l24 0 w2 (unhide HYw2) (unhide HRRw2) (unhide HL24) (by omega) (by omega) (by omega) (unhide H256)
    rw [unhide HU0] at hX
    have HX := hide hX
    clear hX
    go_wp2_with fail
    refine Calls.mono (unhide HX) ?_
    rintro e w3 ⟨oo, q1, q2⟩
    obtain ⟨rfl, rr⟩ := q2 (unhide HL0)
    have HRRw3 := hide rr
    have HYw3 := hide (oo.byt (unhide HYw2) (unhide HOF))
    have HRw3 := hide ((unhide HRw2).only oo (by omega))
    have HBw3 := hide ((unhide HBw2).trans (oo.below (unhide HBw2).size (fun k hk => by omega)))
    clear rr oo q1 q2 HX HRRw2 HYw2 HRw2 HBw2
    have HX := hide (Oct.rnum_err (w.heap.size + 1) _ _ 5 w3 (unhide HRRw3) (by decide))
    go_wp2_with fail
    refine Calls.mono (unhide HX) ?_
    rintro e wx ⟨rfl, rfl⟩
    clear HX
    have HX := hide (Oct.rnum_err (w.heap.size + 1) _ _ 5 w3 (unhide HRRw3) (by decide))
    go_wp2_with fail
    refine Calls.mono (unhide HX) ?_
    rintro e wx ⟨rfl, rfl⟩
    clear HX
    have b6 : Below w3.heap.size w3 (w3.alloc (.cells #[.int .i64 0, .int .i64 0, .int .i64 0, .slice none 0 0] 37)) := (Below.refl _ _).alloc (Nat.le_refl _) _
    have R6 := (unhide HRRw3).below b6 (unhide HRRw3).lt
    have ce : (w3.alloc (.cells #[.int .i64 0, .int .i64 0, .int .i64 0, .slice none 0 0] 37)).cell? ⟨w.heap.size + 1, 2, none⟩ = some (.int .i64 5) := R6.cell 2
    have F6 := RowAt.new w3 37 [.int .i64 0, .int .i64 0, .int .i64 0, .slice none 0 0]
    have f0 := F6.cell 0
    have f1 := F6.cell 1
    have f2 := F6.cell 2
    have HF6 := hide F6
    have HE2 := hide (((unhide HRw3).below b6 (unhide HRw3).lt).arr rfl)
    have HB7 := hide ((unhide HBw3).trans (b6.mono (unhide HBw3).size))
    have HGF : Hid (w.heap.size < w3.heap.size) := hide (unhide HRw3).lt
    clear b6 R6 F6 HRRw3 HYw3 HRw3 HBw3
    go_upto_if 70 with fail
    go_wp2_with (first
      | (refine wpList_store_row rfl 37 _ _ rfl w.heap.size ([.int .i64 0, .int .i64 0, .int .i64 0, .slice none 0 0] : List Value).toArray rfl rfl 37 ([.int .i64 0, .int .i64 0, .int .i64 0, .slice none 0 0] : List Value).toArray (unhide HE2) z37 rfl (one37' 0 0 0) ?_))
    all_goals (first
      | (exfalso; omega)
      | (refine bodyPost_ret (results_row_tmp Tryd.results27 _ _ w.heap.size 37 ([.int .i64 0, .int .i64 0, .int .i64 0, .slice none 0 0] : List Value).toArray (0, 0) _ rfl (setRow_heap _ _ _ _ _ _ (unhide HE2)) Tryd.underlying37 rfl z37) rfl ⟨rfl, ?_⟩
         exact Below.trans (unhide HB7) ⟨rfl, rfl, rfl, by simp [World.setRow], fun k hk => setRow_other _ _ _ _ (by omega)⟩)
      | (exfalso; simp at *; omega))
end Go.Proofs.YthhpnakgiammiaaDoor

namespace Go.Proofs.YthhpnakgiammiaaDoor
set_option linter.unusedVariables false
set_option linter.unusedSimpArgs false
open Go.ChangeShapes Go.WideShapes Go.ChangeAt Go.RowKit Go.Joins

set_option maxRecDepth 100000 in
set_option maxHeartbeats 8000000 in
theorem rpeek_ok (a : Addr) (n cap : Nat) (l : List Nat) (w : World) (hv : Byt w (.slice (some a) n cap) l) (h8 : U8 l) (hn : l.length = n) (h40 : 40 ≤ n) (hn2 : n ≤ 16360) (hok : PkOk l n) :
    Calls Tryd.prog 27 #[.slice (some a) n cap] w fun e w' => e = .returned (.tuple #[frV (Oct.numOf (((l.take 24).drop 0).take 8) : Nat) (Oct.numOf (((l.take 24).drop 8).take 8) : Nat) (Oct.numOf (((l.take 24).drop 16).take 8) : Nat) (.slice none 0 0), .int .i64 0]) ∧ Below w.heap.size w w' := by
  have h1 : ¬ (n : Int) < 40 := by omega
  have h2 : ¬ (16360 : Int) < (n : Int) := by omega
  have hcap : n ≤ cap := by
    rcases hv with ⟨e, _⟩ | ⟨a', c', e, h1, _⟩
    · cases e
    · injection e with e1 e2 e3; omega
  have hcI : (24 : Int) ≤ (cap : Int) := by omega
  have halt : a.block < w.heap.size := by
    rcases hv with ⟨e, _⟩ | ⟨a', c', e, _, _, h3⟩
    · cases e
    · injection e with e1 e2 e3
      injection e1 with e1
      subst e1
      have := lt_of_cell (h3 0 _ (List.getElem?_eq_getElem (by omega)))
      rw [add_block] at this
      exact this
  have b1 : Below w.heap.size w (w.alloc (.cells #[.int .i64 0, .int .i64 0, .int .i64 0, .slice none 0 0] 37)) := (Below.refl _ _).alloc (Nat.le_refl _) _
  have hR := RowAt.new w 37 [.int .i64 0, .int .i64 0, .int .i64 0, .slice none 0 0]
  have hs1 : (w.alloc (.cells #[.int .i64 0, .int .i64 0, .int .i64 0, .slice none 0 0] 37)).heap.size = w.heap.size + 1 := csize_alloc _ _
  have b2 : Below (w.alloc (.cells #[.int .i64 0, .int .i64 0, .int .i64 0, .slice none 0 0] 37)).heap.size (w.alloc (.cells #[.int .i64 0, .int .i64 0, .int .i64 0, .slice none 0 0] 37)) ((w.alloc (.cells #[.int .i64 0, .int .i64 0, .int .i64 0, .slice none 0 0] 37)).alloc (.cells #[.slice (some a) 24 cap, .int .i64 0, .int .i64 0] 66)) := (Below.refl _ _).alloc (Nat.le_refl _) _
  have hr : Oct.RRd ((w.alloc (.cells #[.int .i64 0, .int .i64 0, .int .i64 0, .slice none 0 0] 37)).alloc (.cells #[.slice (some a) 24 cap, .int .i64 0, .int .i64 0] 66)) (w.heap.size + 1) (.slice (some a) 24 cap) 0 0 := by
    have := RowAt.new (w.alloc (.cells #[.int .i64 0, .int .i64 0, .int .i64 0, .slice none 0 0] 37)) 66 [.slice (some a) 24 cap, .int .i64 ((0 : Nat) : Int), .int .i64 0]
    rw [hs1] at this
    exact this
  have HRR := hide hr
  have HR2 := hide (hR.below b2 hR.lt)
  have B2 := b1.trans (b2.mono b1.size)
  have HB2 := hide B2
  have HY2 := hide ((hv.call B2).take 24 (by omega))
  have HL24 : Hid ((l.take 24).length = 24) := hide (by rw [List.length_take]; omega)
  have H256 : Hid (∀ y ∈ l.take 24, y < 256) := hide (fun y hy => h8 y (List.mem_of_mem_take hy))
  have HOF : Hid (Off (.slice (some a) 24 cap) (· = w.heap.size + 1)) := hide (fun k hk e => by simp [Value.ownBlock] at hk; omega)
  have hD : Oct.numOf (((l.take 24).drop 0).take 8) ≤ 9223372036854775807 ∧ Oct.numOf (((l.take 24).drop 8).take 8) ≤ 9223372036854775807 ∧ Oct.numOf (((l.take 24).drop 16).take 8) ≤ 9223372036854775807 ∧ 1 ≤ Oct.numOf (((l.take 24).drop 0).take 8) ∧ Oct.numOf (((l.take 24).drop 0).take 8) ≤ 1099511627776 ∧ Oct.numOf (((l.take 24).drop 8).take 8) ≤ 1099511627776 ∧ Oct.numOf (((l.take 24).drop 16).take 8) ≤ 1099511627776 ∧ (Oct.numOf (((l.take 24).drop 8).take 8) = 0 ↔ n = 40) := by
    unfold PkOk pkS at hok
    rw [nx_iff _ _ _ _ (unhide HL24) (by omega), nx_iff _ _ _ _ (unhide HL24) (by omega), nx_iff _ _ _ _ (unhide HL24) (by omega)] at hok
    omega
  clear hok
  generalize l.take 24 = l24 at *
  obtain ⟨c, hc⟩ : ∃ x, Oct.numOf ((l24.drop 0).take 8) = x := ⟨_, rfl⟩
  obtain ⟨s, hs⟩ : ∃ x, Oct.numOf ((l24.drop 8).take 8) = x := ⟨_, rfl⟩
  obtain ⟨k, hk⟩ : ∃ x, Oct.numOf ((l24.drop 16).take 8) = x := ⟨_, rfl⟩
  rw [hc, hs, hk] at hD ⊢
  have HU0 := hide hc
  have HU1 := hide hs
  have HU2 := hide hk
  have HRRw2 := HRR
  have HYw2 := HY2
  have HRw2 := HR2
  have HBw2 := HB2
  obtain ⟨g0, g1, g2, g3, g4, g5, g6, g7⟩ := hD
  have HL0 := hide g0
  have HL1 := hide g1
  have HL2 := hide g2
  have i1 : ¬ (c : Int) < 1 := by omega
  have i2 : ¬ (1099511627776 : Int) < (c : Int) := by omega
  have i3 : ¬ (1099511627776 : Int) < (s : Int) := by omega
  have i4 : ¬ (1099511627776 : Int) < (k : Int) := by omega
  clear hv h8 hR b1 b2 hr hs1 B2 hc hs hk HRR HY2 HR2 HB2
  by_cases h0 : s = 0
  · have h9 : n = 40 := g7.1 h0
    subst h0 h9
    clear g7
    have HZ0 : Hid True := hide trivial
    go_enter Tryd.func27, Tryd.ntmps27
    go_wp2_with fail
    generalize (w.alloc (.cells #[.int .i64 0, .int .i64 0, .int .i64 0, .slice none 0 0] 37)).alloc (.cells #[.slice (some a) 24 cap, .int .i64 0, .int .i64 0] 66) = w2 at *
    have hX := Oct.rnum_any (w.heap.size + 1) a 24 cap l24 0 w2 (unhide HYw2) (unhide HRRw2) (unhide HL24) (by omega) (by omega) (by omega) (unhide H256)
    rw [unhide HU0] at hX
    have HX := hide hX
    clear hX
    go_wp2_with fail
    refine Calls.mono (unhide HX) ?_
    rintro e w3 ⟨oo, q1, q2⟩
    obtain ⟨rfl, rr⟩ := q1 (unhide HL0)
    have HRRw3 := hide rr
    have HYw3 := hide (oo.byt (unhide HYw2) (unhide HOF))
    have HRw3 := hide ((unhide HRw2).only oo (by omega))
    have HBw3 := hide ((unhide HBw2).trans (oo.below (unhide HBw2).size (fun k hk => by omega)))
    clear rr oo q1 q2 HX HRRw2 HYw2 HRw2 HBw2
    have hX := Oct.rnum_any (w.heap.size + 1) a 24 cap l24 8 w3 (unhide HYw3) (unhide HRRw3) (unhide HL24) (by omega) (by omega) (by omega) (unhide H256)
    rw [unhide HU1] at hX
    have HX := hide hX
    clear hX
    go_wp2_with fail
    refine Calls.mono (unhide HX) ?_
    rintro e w4 ⟨oo, q1, q2⟩
    obtain ⟨rfl, rr⟩ := q1 (unhide HL1)
    have HRRw4 := hide rr
    have HYw4 := hide (oo.byt (unhide HYw3) (unhide HOF))
    have HRw4 := hide ((unhide HRw3).only oo (by omega))
    have HBw4 := hide ((unhide HBw3).trans (oo.below (unhide HBw3).size (fun k hk => by omega)))
    clear rr oo q1 q2 HX HRRw3 HYw3 HRw3 HBw3
    have hX := Oct.rnum_any (w.heap.size + 1) a 24 cap l24 16 w4 (unhide HYw4) (unhide HRRw4) (unhide HL24) (by omega) (by omega) (by omega) (unhide H256)
    rw [unhide HU2] at hX
    have HX := hide hX
    clear hX
    go_wp2_with fail
    refine Calls.mono (unhide HX) ?_
    rintro e w5 ⟨oo, q1, q2⟩
    obtain ⟨rfl, rr⟩ := q1 (unhide HL2)
    have HRRw5 := hide rr
    have HYw5 := hide (oo.byt (unhide HYw4) (unhide HOF))
    have HRw5 := hide ((unhide HRw4).only oo (by omega))
    have HBw5 := hide ((unhide HBw4).trans (oo.below (unhide HBw4).size (fun k hk => by omega)))
    clear rr oo q1 q2 HX HRRw4 HYw4 HRw4 HBw4
    have b6 : Below w5.heap.size w5 (w5.alloc (.cells #[.int .i64 (c : Int), .int .i64 0, .int .i64 (k : Int), .slice none 0 0] 37)) := (Below.refl _ _).alloc (Nat.le_refl _) _
    have R6 := (unhide HRRw5).below b6 (unhide HRRw5).lt
    have ce : (w5.alloc (.cells #[.int .i64 (c : Int), .int .i64 0, .int .i64 (k : Int), .slice none 0 0] 37)).cell? ⟨w.heap.size + 1, 2, none⟩ = some (.int .i64 0) := R6.cell 2
    have F6 := RowAt.new w5 37 [.int .i64 (c : Int), .int .i64 0, .int .i64 (k : Int), .slice none 0 0]
    have f0 := F6.cell 0
    have f1 := F6.cell 1
    have f2 := F6.cell 2
    have HF6 := hide F6
    have HE2 := hide (((unhide HRw5).below b6 (unhide HRw5).lt).arr rfl)
    have HB7 := hide ((unhide HBw5).trans (b6.mono (unhide HBw5).size))
    have HGF : Hid (w.heap.size < w5.heap.size) := hide (unhide HRw5).lt
    clear b6 R6 F6 HRRw5 HYw5 HRw5 HBw5
    obtain ⟨E, hE⟩ : ∃ E : Array Value, ([.int .i64 (c : Int), .int .i64 0, .int .i64 (k : Int), .slice none 0 0] : List Value).toArray = E := ⟨_, rfl⟩
    have HE1 := hide ((unhide HF6).arr hE)
    have HES : Hid (E.size = 4) := hide (by rw [← hE]; rfl)
    have HEO : Hid (E.all (·.oneCell') = true) := hide (by rw [← hE]; exact one37' _ _ _)
    have HEE := hide hE
    clear hE
    go_upto_if 70 with fail
    obtain ⟨gf, hgf⟩ : ∃ x, w5.heap.size = x := ⟨_, rfl⟩
    rw [hgf] at HE1
    try rw [hgf]
    generalize w5.alloc (.cells #[.int .i64 (c : Int), .int .i64 0, .int .i64 (k : Int), .slice none 0 0] 37) = w6 at *
    go_wp2_with (first
      | (refine wpList_load_row rfl 37 _ rfl gf (by kernel_rfl) 37 E (0, 0) _ (unhide HE1) Tryd.underlying37 rfl (by rw [z37, unhide HES]) ?_)
      | (refine wpList_store_row rfl 37 _ _ rfl w.heap.size E (by kernel_rfl) (by kernel_rfl) 37 ([.int .i64 0, .int .i64 0, .int .i64 0, .slice none 0 0] : List Value).toArray (unhide HE2) (by rw [z37, unhide HES]) (by rw [unhide HES]; rfl) (unhide HEO) ?_))
    refine bodyPost_ret (results_row_tmp Tryd.results27 _ _ w.heap.size 37 E (0, 0) _ rfl (setRow_heap _ _ _ _ _ _ (unhide HE2)) Tryd.underlying37 rfl (by rw [z37, unhide HES])) rfl ⟨?_, ?_⟩
    · rw [← unhide HEE]
      rfl
    · exact Below.trans (unhide HB7) ⟨rfl, rfl, rfl, by simp [World.setRow], fun k hk => setRow_other _ _ _ _ (by omega)⟩
  · have h9 : 40 < n := by omega
    have i5 : (0 : Int) < (s : Int) := by omega
    have i6 : ¬ (s : Int) = 0 := by omega
    have i7 : (40 : Int) < (n : Int) := by omega
    have i8 : ¬ (n : Int) = 40 := by omega
    have i9 : ((n : Int) == 40) = false := by simp; omega
    have i10 : ((s : Int) == 0) = false := by simp; omega
    clear g7
    go_enter Tryd.func27, Tryd.ntmps27
    go_wp2_with fail
    generalize (w.alloc (.cells #[.int .i64 0, .int .i64 0, .int .i64 0, .slice none 0 0] 37)).alloc (.cells #[.slice (some a) 24 cap, .int .i64 0, .int .i64 0] 66) = w2 at *
    have hX := Oct.rnum_any (w.heap.size + 1) a 24 cap l24 0 w2 (unhide HYw2) (unhide HRRw2) (unhide HL24) (by omega) (by omega) (by omega) (unhide H256)
    rw [unhide HU0] at hX
    have HX := hide hX
    clear hX
    go_wp2_with fail
    refine Calls.mono (unhide HX) ?_
    rintro e w3 ⟨oo, q1, q2⟩
    obtain ⟨rfl, rr⟩ := q1 (unhide HL0)
    have HRRw3 := hide rr
    have HYw3 := hide (oo.byt (unhide HYw2) (unhide HOF))
    have HRw3 := hide ((unhide HRw2).only oo (by omega))
    have HBw3 := hide ((unhide HBw2).trans (oo.below (unhide HBw2).size (fun k hk => by omega)))
    clear rr oo q1 q2 HX HRRw2 HYw2 HRw2 HBw2
    have hX := Oct.rnum_any (w.heap.size + 1) a 24 cap l24 8 w3 (unhide HYw3) (unhide HRRw3) (unhide HL24) (by omega) (by omega) (by omega) (unhide H256)
    rw [unhide HU1] at hX
    have HX := hide hX
    clear hX
    go_wp2_with fail
    refine Calls.mono (unhide HX) ?_
    rintro e w4 ⟨oo, q1, q2⟩
    obtain ⟨rfl, rr⟩ := q1 (unhide HL1)
    have HRRw4 := hide rr
    have HYw4 := hide (oo.byt (unhide HYw3) (unhide HOF))
    have HRw4 := hide ((unhide HRw3).only oo (by omega))
    have HBw4 := hide ((unhide HBw3).trans (oo.below (unhide HBw3).size (fun k hk => by omega)))
    clear rr oo q1 q2 HX HRRw3 HYw3 HRw3 HBw3
    have hX := Oct.rnum_any (w.heap.size + 1) a 24 cap l24 16 w4 (unhide HYw4) (unhide HRRw4) (unhide HL24) (by omega) (by omega) (by omega) (unhide H256)
    rw [unhide HU2] at hX
    have HX := hide hX
    clear hX
    go_wp2_with fail
    refine Calls.mono (unhide HX) ?_
    rintro e w5 ⟨oo, q1, q2⟩
    obtain ⟨rfl, rr⟩ := q1 (unhide HL2)
    have HRRw5 := hide rr
    have HYw5 := hide (oo.byt (unhide HYw4) (unhide HOF))
    have HRw5 := hide ((unhide HRw4).only oo (by omega))
    have HBw5 := hide ((unhide HBw4).trans (oo.below (unhide HBw4).size (fun k hk => by omega)))
    clear rr oo q1 q2 HX HRRw4 HYw4 HRw4 HBw4
    have b6 : Below w5.heap.size w5 (w5.alloc (.cells #[.int .i64 (c : Int), .int .i64 (s : Int), .int .i64 (k : Int), .slice none 0 0] 37)) := (Below.refl _ _).alloc (Nat.le_refl _) _
    have R6 := (unhide HRRw5).below b6 (unhide HRRw5).lt
    have ce : (w5.alloc (.cells #[.int .i64 (c : Int), .int .i64 (s : Int), .int .i64 (k : Int), .slice none 0 0] 37)).cell? ⟨w.heap.size + 1, 2, none⟩ = some (.int .i64 0) := R6.cell 2
    have F6 := RowAt.new w5 37 [.int .i64 (c : Int), .int .i64 (s : Int), .int .i64 (k : Int), .slice none 0 0]
    have f0 := F6.cell 0
    have f1 := F6.cell 1
    have f2 := F6.cell 2
    have HF6 := hide F6
    have HE2 := hide (((unhide HRw5).below b6 (unhide HRw5).lt).arr rfl)
    have HB7 := hide ((unhide HBw5).trans (b6.mono (unhide HBw5).size))
    have HGF : Hid (w.heap.size < w5.heap.size) := hide (unhide HRw5).lt
    clear b6 R6 F6 HRRw5 HYw5 HRw5 HBw5
    obtain ⟨E, hE⟩ : ∃ E : Array Value, ([.int .i64 (c : Int), .int .i64 (s : Int), .int .i64 (k : Int), .slice none 0 0] : List Value).toArray = E := ⟨_, rfl⟩
    have HE1 := hide ((unhide HF6).arr hE)
    have HES : Hid (E.size = 4) := hide (by rw [← hE]; rfl)
    have HEO : Hid (E.all (·.oneCell') = true) := hide (by rw [← hE]; exact one37' _ _ _)
    have HEE := hide hE
    clear hE
    go_upto_if 70 with fail
    obtain ⟨gf, hgf⟩ : ∃ x, w5.heap.size = x := ⟨_, rfl⟩
    rw [hgf] at HE1
    try rw [hgf]
    generalize w5.alloc (.cells #[.int .i64 (c : Int), .int .i64 (s : Int), .int .i64 (k : Int), .slice none 0 0] 37) = w6 at *
    go_wp2_with (first
      | (refine wpList_load_row rfl 37 _ rfl gf (by kernel_rfl) 37 E (0, 0) _ (unhide HE1) Tryd.underlying37 rfl (by rw [z37, unhide HES]) ?_)
      | (refine wpList_store_row rfl 37 _ _ rfl w.heap.size E (by kernel_rfl) (by kernel_rfl) 37 ([.int .i64 0, .int .i64 0, .int .i64 0, .slice none 0 0] : List Value).toArray (unhide HE2) (by rw [z37, unhide HES]) (by rw [unhide HES]; rfl) (unhide HEO) ?_))
    refine bodyPost_ret (results_row_tmp Tryd.results27 _ _ w.heap.size 37 E (0, 0) _ rfl (setRow_heap _ _ _ _ _ _ (unhide HE2)) Tryd.underlying37 rfl (by rw [z37, unhide HES])) rfl ⟨?_, ?_⟩
    · rw [← unhide HEE]
      rfl
    · exact Below.trans (unhide HB7) ⟨rfl, rfl, rfl, by simp [World.setRow], fun k hk => setRow_other _ _ _ _ (by omega)⟩
end Go.Proofs.YthhpnakgiammiaaDoor

namespace Go.Proofs.YthhpnakgiammiaaDoor
set_option linter.unusedVariables false
set_option linter.unusedSimpArgs false
open Go.ChangeShapes Go.WideShapes Go.ChangeAt Go.RowKit Go.Joins

set_option maxRecDepth 100000 in
set_option maxHeartbeats 4000000 in
theorem unwrap_bad (kv : Value) (up : Bool) (a : Option Addr) (n cap : Nat) (l : List Nat) (w : World) (hv : Byt w (.slice a n cap) l) (h8 : U8 l) (hn : l.length = n) (hnb : n ≤ 1000000) (hbad : ¬ PkOk l n) :
    Calls Tryd.prog 28 #[kv, .bool up, .slice a n cap] w fun e w' => e = .returned (.tuple #[frV 0 0 0 (.slice none 0 0), .int .i64 120]) ∧ Below w.heap.size w w' := by
  have b1 : Below w.heap.size w (w.alloc (.cells #[.int .i64 0, .int .i64 0, .int .i64 0, .slice none 0 0] 37)) := (Below.refl _ _).alloc (Nat.le_refl _) _
  have hR := RowAt.new w 37 [.int .i64 0, .int .i64 0, .int .i64 0, .slice none 0 0]
  have HR := hide hR
  have HB1 := hide b1
  have HPK := hide (peek_bad a n cap l (w.alloc (.cells #[.int .i64 0, .int .i64 0, .int .i64 0, .slice none 0 0] 37)) (hv.call b1) h8 hn hnb hbad)
  rw [frV] at HPK
  clear hR b1 hv h8 hn hbad
  go_enter Tryd.func28, Tryd.ntmps28
  go_wp2_with fail
  generalize w.alloc (.cells #[.int .i64 0, .int .i64 0, .int .i64 0, .slice none 0 0] 37) = w1 at *
  refine Calls.mono (unhide HPK) ?_
  rintro e w2 ⟨rfl, b2⟩
  have b3 : Below w2.heap.size w2 (w2.alloc (.cells #[.int .i64 0, .int .i64 0, .int .i64 0, .slice none 0 0] 37)) := (Below.refl _ _).alloc (Nat.le_refl _) _
  have R2 := (unhide HR).below b2 (unhide HR).lt
  have HE2 := hide ((R2.below b3 R2.lt).arr rfl)
  have B2 := (unhide HB1).trans (b2.mono (unhide HB1).size)
  have HB7 := hide (B2.trans (b3.mono B2.size))
  clear b2 b3 R2 B2 HPK HB1 HR
  go_wp2_with (first
    | (refine wpList_store_row rfl 37 _ _ rfl w.heap.size ([.int .i64 0, .int .i64 0, .int .i64 0, .slice none 0 0] : List Value).toArray rfl rfl 37 ([.int .i64 0, .int .i64 0, .int .i64 0, .slice none 0 0] : List Value).toArray (unhide HE2) z37 rfl (one37' 0 0 0) ?_))
  refine bodyPost_ret (results_row_tmp Tryd.results28 _ _ w.heap.size 37 ([.int .i64 0, .int .i64 0, .int .i64 0, .slice none 0 0] : List Value).toArray (0, 0) _ rfl (setRow_heap _ _ _ _ _ _ (unhide HE2)) Tryd.underlying37 rfl z37) rfl ⟨rfl, ?_⟩
  exact Below.trans (unhide HB7) ⟨rfl, rfl, rfl, by simp [World.setRow], fun k hk => setRow_other _ _ _ _ (by omega)⟩

def UnG (key : List Nat) (kn O c s k : Nat) (head hid t : List Nat) (w : World) (e : Ending) (w' : World) : Prop :=
  Below w.heap.size w w' ∧ (¬ kn = 64 → e = .returned (.tuple #[frV 0 0 0 (.slice none 0 0), .int .i64 1])) ∧ (kn = 64 → ¬ t = tagL key O head hid → e = .returned (.tuple #[frV 0 0 0 (.slice none 0 0), .int .i64 121])) ∧
    (kn = 64 → t = tagL key O head hid → ∃ bv', e = .returned (.tuple #[frV c s k bv', .int .i64 0]) ∧ Byt w' bv' (tkL key O hid))
set_option maxRecDepth 100000 in
set_option maxHeartbeats 8000000 in
theorem unwrap_any (ka : Option Addr) (kn kc : Nat) (up : Bool) (a : Addr) (n cap : Nat) (key l : List Nat) (c s k : Nat) (w : World) (hT : Lay w) (hK : Byt w (.slice ka kn kc) key) (hk8 : U8 key) (hkl : key.length = kn) (hv : Byt w (.slice (some a) n cap) l) (h8 : U8 l) (hn : l.length = n) (h40 : 40 ≤ n) (hn2 : n ≤ 16360)
    (hc : Oct.numOf (l.take 8) = c) (hs : Oct.numOf ((l.drop 8).take 8) = s) (hk : Oct.numOf ((l.drop 16).take 8) = k) (c1 : 1 ≤ c) (c2 : c ≤ 1099511627776) (s2 : s ≤ 1099511627776) (k2 : k ≤ 1099511627776) (hsb : s = 0 ↔ n = 40) :
    Calls Tryd.prog 28 #[.slice ka kn kc, .bool up, .slice (some a) n cap] w fun e w' => UnG key kn (onceU s up) c s k (l.take 24) ((l.drop 24).take (n - 40)) ((l.drop 24).drop (n - 40)) w e w' := by
  obtain ⟨O, hO⟩ : ∃ x, onceU s up = x := ⟨_, rfl⟩
  obtain ⟨hid, hhid⟩ : ∃ x, (l.drop 24).take (n - 40) = x := ⟨_, rfl⟩
  obtain ⟨t, ht⟩ : ∃ x, (l.drop 24).drop (n - 40) = x := ⟨_, rfl⟩
  obtain ⟨hd, hhd⟩ : ∃ x, l.take 24 = x := ⟨_, rfl⟩
  rw [hO, hhid, ht, hhd]
  have HOE := hide hO
  have HHID := hide hhid
  have HHT := hide ht
  have HHD := hide hhd
  clear hO hhid ht hhd
  have hcap : n ≤ cap := by
    rcases hv with ⟨e, _⟩ | ⟨a', c', e, h1, _⟩
    · cases e
    · injection e with e1 e2 e3; omega
  have b1 : Below w.heap.size w (w.alloc (.cells #[.int .i64 0, .int .i64 0, .int .i64 0, .slice none 0 0] 37)) := (Below.refl _ _).alloc (Nat.le_refl _) _
  have hR := RowAt.new w 37 [.int .i64 0, .int .i64 0, .int .i64 0, .slice none 0 0]
  have HR := hide hR
  have HB1 := hide b1
  have HPK := hide (peek_ok a n cap l c s k (w.alloc (.cells #[.int .i64 0, .int .i64 0, .int .i64 0, .slice none 0 0] 37)) (hv.call b1) h8 hn h40 hn2 hc hs hk c1 c2 s2 k2 hsb)
  rw [frV] at HPK
  have HT := hide hT
  have HK := hide hK
  have HK8 := hide hk8
  have HKL := hide hkl
  have HV := hide hv
  have H8 := hide h8
  have HN := hide hn
  have HON := hide (fun w => fonce_any s up w s2)
  rw [show (2 * s + (if up = true then 0 else 1)) = onceU s up from rfl, unhide HOE] at HON
  have HOL : Hid (O < 18446744073709551616) := hide (unhide HOE ▸ onceU_lt s up s2)
  have HSB := hide hsb
  have hci : (24 : Int) ≤ (cap : Int) := by omega
  have hni : (24 : Int) ≤ (n : Int) := by omega
  have hnn : 24 ≤ n := by omega
  have hcn : ¬ cap = 24 := by omega
  have hc24 : 24 ≤ cap := by omega
  clear hR b1 hT hK hk8 hkl hv h8 hn hc hs hk c1 c2 s2 k2 hsb
  go_enter Tryd.func28, Tryd.ntmps28
  go_wp2_with fail
  generalize w.alloc (.cells #[.int .i64 0, .int .i64 0, .int .i64 0, .slice none 0 0] 37) = w1 at *
  refine Calls.mono (unhide HPK) ?_
  rintro e w2 ⟨rfl, b2⟩
  have HB2 := hide ((unhide HB1).trans (b2.mono (unhide HB1).size))
  have HR2 := hide ((unhide HR).below b2 (unhide HR).lt)
  clear b2 HPK HB1 HR
  have b3 : Below w2.heap.size w2 (w2.alloc (.cells #[.int .i64 (c : Int), .int .i64 (s : Int), .int .i64 (k : Int), .slice none 0 0] 37)) := (Below.refl _ _).alloc (Nat.le_refl _) _
  have hF := RowAt.new w2 37 [.int .i64 (c : Int), .int .i64 (s : Int), .int .i64 (k : Int), .slice none 0 0]
  have B3 := (unhide HB2).trans (b3.mono (unhide HB2).size)
  have R3 := (unhide HR2).below b3 (unhide HR2).lt
  have hcw : (w2.alloc (.cells #[.int .i64 (c : Int), .int .i64 (s : Int), .int .i64 (k : Int), .slice none 0 0] 37)).cell? ⟨w2.heap.size, 1, none⟩ = some (.int .i64 (s : Int)) := hF.cell 1
  have HGF : Hid (w.heap.size < w2.heap.size) := hide (unhide HR2).lt
  have D3 := B3.drew
  have hsl : (l.drop 24).length = n - 24 := by rw [List.length_drop, unhide HN]
  have HFr := hide hF
  have HB3 := hide D3
  have HR3 := hide (R3.below ((Below.refl _ (w2.alloc (.cells #[.int .i64 (c : Int), .int .i64 (s : Int), .int .i64 (k : Int), .slice none 0 0] 37))).drew) R3.lt)
  obtain ⟨gf, hgf⟩ : ∃ x, w2.heap.size = x := ⟨_, rfl⟩
  by_cases hk64 : kn = 64
  · subst hk64
    have hop := open_any (.slice ka 64 kc) (.slice (some a) 24 cap) (.slice (some (a.add 24)) (n - 24) (cap - 24)) key (l.take 24) (l.drop 24) O (w2.alloc (.cells #[.int .i64 (c : Int), .int .i64 (s : Int), .int .i64 (k : Int), .slice none 0 0] 37)).drew ((unhide HT).below D3) ((unhide HK).call D3) (((unhide HV).call D3).take 24 (by omega)) (((unhide HV).call D3).drop 24 (by omega)) (unhide HK8) (fun y hy => unhide H8 y (List.mem_of_mem_take hy)) (fun y hy => unhide H8 y (List.mem_of_mem_drop hy)) (unhide HKL) (by rw [List.length_take, unhide HN]; omega) (by rw [hsl]; omega) (by rw [hsl]; omega) (unhide HOL)
    rw [hsl, show n - 24 - 16 = n - 40 by omega, unhide HHID, unhide HHT, unhide HHD] at hop
    have HOP := hide hop
    have HHL : Hid (hid.length = n - 40) := hide (by rw [← unhide HHID, List.length_take, hsl]; omega)
    clear b3 B3 R3 D3 hsl hop HR2 HB2 hF
    rw [hgf] at HFr HGF hcw
    by_cases hq : t = tagL key O hd hid
    · have HQ := hide hq
      clear hq
      by_cases h0 : s = 0
      · have h40' : n = 40 := (unhide HSB).1 h0
        have hhn : hid = [] := List.eq_nil_of_length_eq_zero (by rw [unhide HHL]; omega)
        have HTN : Hid (tkL key O hid = []) := hide (by rw [hhn]; exact tk_nil _ _)
        have hs0 : ¬ (0 : Int) < (s : Int) := by omega
        clear h0 h40' hhn
        go_wp2_with fail
        try rw [hgf]
        generalize w2.alloc (.cells #[.int .i64 (c : Int), .int .i64 (s : Int), .int .i64 (k : Int), .slice none 0 0] 37) = w3 at *
        go_region_held (fun w' => w'.cell? ⟨gf, 1, none⟩ = some (.int .i64 (s : Int)))
          (first | exact hcw | exact k4)
          (first
            | (go_at_call 44; refine Calls.mono (unhide HON _) ?_; rintro e wx ⟨rfl, rfl⟩)
            | (go_at_call 17; refine Calls.mono (unhide HOP) ?_; rintro e w4 ⟨b4, q4, q5⟩; obtain ⟨v4, rfl, o4⟩ := q4 (unhide HQ); have k4 := cell_keep b4 (lt_of_cell hcw) hcw))
        all_goals (
          have HB5 := hide ((unhide HB3).trans (b4.mono (unhide HB3).size))
          have F4 : RowAt w4 gf 37 [.int .i64 (c : Int), .int .i64 (s : Int), .int .i64 (k : Int), .slice none 0 0] := (unhide HFr).drew.below b4 (unhide HFr).drew.lt
          have R4 : RowAt w4 w.heap.size 37 [.int .i64 0, .int .i64 0, .int .i64 0, .slice none 0 0] := (unhide HR3).below b4 (unhide HR3).lt
          have HE2 := hide (R4.arr rfl)
          obtain ⟨E, hE⟩ : ∃ E : Array Value, ([.int .i64 (c : Int), .int .i64 (s : Int), .int .i64 (k : Int), .slice none 0 0] : List Value).toArray = E := ⟨_, rfl⟩
          have HE1 := hide ((F4).arr hE)
          have HES : Hid (E.size = 4) := hide (by rw [← hE]; rfl)
          have HEO : Hid (E.all (·.oneCell') = true) := hide (by rw [← hE]; simp only [List.all_toArray, List.all_cons, List.all_nil, Bool.and_true]; rfl)
          have HEE := hide hE
          clear b4 F4 R4 q4 q5 o4 hE HOP HON HB3 HR3 HFr hcw
          go_wp2_with (first
            | (refine wpList_load_row rfl 37 _ rfl gf (by kernel_rfl) 37 E (0, 0) _ (unhide HE1) Tryd.underlying37 rfl (by rw [z37, unhide HES]) ?_)
            | (refine wpList_store_row rfl 37 _ _ rfl w.heap.size E (by kernel_rfl) (by kernel_rfl) 37 ([.int .i64 0, .int .i64 0, .int .i64 0, .slice none 0 0] : List Value).toArray (unhide HE2) (by rw [z37, unhide HES]) (by rw [unhide HES]; rfl) (unhide HEO) ?_))
          refine bodyPost_ret (results_row_tmp Tryd.results28 _ _ w.heap.size 37 E (0, 0) _ rfl (setRow_heap _ _ _ _ _ _ (unhide HE2)) Tryd.underlying37 rfl (by rw [z37, unhide HES])) rfl ⟨?_, fun h => absurd rfl h, fun _ h => absurd (unhide HQ) h, fun _ _ => ?_⟩
          · exact Below.trans (unhide HB5) ⟨rfl, rfl, rfl, by simp [World.setRow], fun k hk => setRow_other _ _ _ _ (by omega)⟩
          · refine ⟨.slice none 0 0, by rw [← unhide HEE]; rfl, ?_⟩
            rw [unhide HTN]
            exact .inl ⟨rfl, rfl⟩)
      · have hs1 : (0 : Int) < (s : Int) := by omega
        clear h0
        go_wp2_with fail
        try rw [hgf]
        generalize w2.alloc (.cells #[.int .i64 (c : Int), .int .i64 (s : Int), .int .i64 (k : Int), .slice none 0 0] 37) = w3 at *
        go_region_held (fun w' => w'.cell? ⟨gf, 1, none⟩ = some (.int .i64 (s : Int)))
          (first | exact hcw | exact k4)
          (first
            | (go_at_call 44; refine Calls.mono (unhide HON _) ?_; rintro e wx ⟨rfl, rfl⟩)
            | (go_at_call 17; refine Calls.mono (unhide HOP) ?_; rintro e w4 ⟨b4, q4, q5⟩; obtain ⟨v4, rfl, o4⟩ := q4 (unhide HQ); have k4 := cell_keep b4 (lt_of_cell hcw) hcw))
        all_goals (
          have Y4 : Byt w4 v4 (tkL key O hid) := Byt.of_own (own_cast o4 (by rw [tkL_len]) rfl)
          obtain ⟨ya, yc, hye⟩ := byt_shape Y4
          obtain ⟨yn, hyn⟩ : ∃ x, (tkL key O hid).length = x := ⟨_, rfl⟩
          rw [hyn] at hye
          subst hye
          have HOF := hide (own_off (p := fun k => k = gf ∨ k = w.heap.size) o4 (fun k hk => by
            have h1 := (unhide HFr).drew.lt
            have h2 := unhide HGF
            rcases hk with rfl | rfl <;> omega))
          have HY4 := hide Y4
          have F4 : RowAt w4 gf 37 [.int .i64 (c : Int), .int .i64 (s : Int), .int .i64 (k : Int), .slice none 0 0] := (unhide HFr).drew.below b4 (unhide HFr).drew.lt
          have R4 : RowAt w4 w.heap.size 37 [.int .i64 0, .int .i64 0, .int .i64 0, .slice none 0 0] := (unhide HR3).below b4 (unhide HR3).lt
          have z3 := F4.frozen 3
          have c3 := F4.cell 3
          have F5 : RowAt (w4.setCell ⟨gf, 3, none⟩ (.slice ya yn yc)) gf 37 [.int .i64 (c : Int), .int .i64 (s : Int), .int .i64 (k : Int), .slice ya yn yc] := F4.set 3 _
          have R5 := R4.only (p := (· = gf)) ((Only.refl _ _).set gf 3 (.slice ya yn yc) rfl) (by have := unhide HGF; omega)
          have HE2 := hide (R5.arr rfl)
          have B5 := (unhide HB3).trans (b4.mono (unhide HB3).size)
          have HB5 : Hid (Below w.heap.size w (w4.setCell ⟨gf, 3, none⟩ (.slice ya yn yc))) := hide (B5.setCell (Nat.le_of_lt (unhide HGF)) _)
          obtain ⟨E, hE⟩ : ∃ E : Array Value, ([.int .i64 (c : Int), .int .i64 (s : Int), .int .i64 (k : Int), .slice ya yn yc] : List Value).toArray = E := ⟨_, rfl⟩
          have HE1 := hide (F5.arr hE)
          have HES : Hid (E.size = 4) := hide (by rw [← hE]; rfl)
          have HEO : Hid (E.all (·.oneCell') = true) := hide (by rw [← hE]; simp only [List.all_toArray, List.all_cons, List.all_nil, Bool.and_true]; rfl)
          have HEE := hide hE
          clear b4 F4 R4 F5 R5 B5 q4 q5 o4 hE hyn Y4 HOP HON HB3 HR3 HFr hcw
          go_wp2_with (first
            | (refine wpList_load_row rfl 37 _ rfl gf (by kernel_rfl) 37 E (0, 0) _ (unhide HE1) Tryd.underlying37 rfl (by rw [z37, unhide HES]) ?_)
            | (refine wpList_store_row rfl 37 _ _ rfl w.heap.size E (by kernel_rfl) (by kernel_rfl) 37 ([.int .i64 0, .int .i64 0, .int .i64 0, .slice none 0 0] : List Value).toArray (unhide HE2) (by rw [z37, unhide HES]) (by rw [unhide HES]; rfl) (unhide HEO) ?_))
          refine bodyPost_ret (results_row_tmp Tryd.results28 _ _ w.heap.size 37 E (0, 0) _ rfl (setRow_heap _ _ _ _ _ _ (unhide HE2)) Tryd.underlying37 rfl (by rw [z37, unhide HES])) rfl ⟨?_, fun h => absurd rfl h, fun _ h => absurd (unhide HQ) h, fun _ _ => ?_⟩
          · exact Below.trans (unhide HB5) ⟨rfl, rfl, rfl, by simp [World.setRow], fun k hk => setRow_other _ _ _ _ (by omega)⟩
          · refine ⟨.slice ya yn yc, by rw [← unhide HEE]; rfl, ?_⟩
            exact Only.byt (((Only.refl (fun k => k = gf ∨ k = w.heap.size) w4).set gf 3 _ (.inl rfl)).setRow w.heap.size E (.inr rfl)) (unhide HY4) (unhide HOF))
    · have HQ := hide hq
      clear hq
      go_wp2_with fail
      try rw [hgf]
      generalize w2.alloc (.cells #[.int .i64 (c : Int), .int .i64 (s : Int), .int .i64 (k : Int), .slice none 0 0] 37) = w3 at *
      go_region_held (fun w' => w'.cell? ⟨gf, 1, none⟩ = some (.int .i64 (s : Int)))
        (first | exact hcw | exact k4)
        (first
          | (go_at_call 44; refine Calls.mono (unhide HON _) ?_; rintro e wx ⟨rfl, rfl⟩)
          | (go_at_call 17; refine Calls.mono (unhide HOP) ?_; rintro e w4 ⟨b4, q4, q5⟩; obtain rfl := q5 (unhide HQ); have k4 := cell_keep b4 (lt_of_cell hcw) hcw))
      all_goals (
        have HB5 := hide ((unhide HB3).trans (b4.mono (unhide HB3).size))
        have F4 : RowAt w4 gf 37 [.int .i64 (c : Int), .int .i64 (s : Int), .int .i64 (k : Int), .slice none 0 0] := (unhide HFr).drew.below b4 (unhide HFr).drew.lt
        have R4 : RowAt w4 w.heap.size 37 [.int .i64 0, .int .i64 0, .int .i64 0, .slice none 0 0] := (unhide HR3).below b4 (unhide HR3).lt
        have HE2 := hide (R4.arr rfl)
        clear b4 F4 R4 q4 q5 HOP HON HB3 HR3 HFr hcw
        go_wp2_with (first
          | (refine wpList_store_row rfl 37 _ _ rfl w.heap.size ([.int .i64 0, .int .i64 0, .int .i64 0, .slice none 0 0] : List Value).toArray rfl rfl 37 ([.int .i64 0, .int .i64 0, .int .i64 0, .slice none 0 0] : List Value).toArray (unhide HE2) z37 rfl (one37' 0 0 0) ?_))
        refine bodyPost_ret (results_row_tmp Tryd.results28 _ _ w.heap.size 37 ([.int .i64 0, .int .i64 0, .int .i64 0, .slice none 0 0] : List Value).toArray (0, 0) _ rfl (setRow_heap _ _ _ _ _ _ (unhide HE2)) Tryd.underlying37 rfl z37) rfl ⟨?_, fun h => absurd rfl h, fun _ _ => rfl, fun _ h => absurd h (unhide HQ)⟩
        exact Below.trans (unhide HB5) ⟨rfl, rfl, rfl, by simp [World.setRow], fun k hk => setRow_other _ _ _ _ (by omega)⟩)
  · have HON2 := hide (fun (w : World) => open_not ka kn kc (.slice (some a) 24 cap) (some (a.add 24)) (n - 24) (cap - 24) O w hk64)
    have HNK := hide hk64
    clear b3 B3 R3 D3 hsl HR2 HB2 hF hk64
    rw [hgf] at HFr HGF hcw
    go_wp2_with fail
    try rw [hgf]
    generalize w2.alloc (.cells #[.int .i64 (c : Int), .int .i64 (s : Int), .int .i64 (k : Int), .slice none 0 0] 37) = w3 at *
    go_region_held (fun w' => w'.cell? ⟨gf, 1, none⟩ = some (.int .i64 (s : Int)))
      (exact hcw)
      (first
        | (go_at_call 44; refine Calls.mono (unhide HON _) ?_; rintro e wx ⟨rfl, rfl⟩)
        | (go_at_call 17; refine Calls.mono (unhide HON2 _) ?_; rintro e wx ⟨rfl, rfl⟩))
    all_goals (
      have HE2 := hide ((unhide HR3).arr rfl)
      clear HON HON2 HR3 HFr
      go_wp2_with (first
        | (refine wpList_store_row rfl 37 _ _ rfl w.heap.size ([.int .i64 0, .int .i64 0, .int .i64 0, .slice none 0 0] : List Value).toArray rfl rfl 37 ([.int .i64 0, .int .i64 0, .int .i64 0, .slice none 0 0] : List Value).toArray (unhide HE2) z37 rfl (one37' 0 0 0) ?_))
      refine bodyPost_ret (results_row_tmp Tryd.results28 _ _ w.heap.size 37 ([.int .i64 0, .int .i64 0, .int .i64 0, .slice none 0 0] : List Value).toArray (0, 0) _ rfl (setRow_heap _ _ _ _ _ _ (unhide HE2)) Tryd.underlying37 rfl z37) rfl ⟨?_, fun _ => rfl, fun h => absurd h (unhide HNK), fun h => absurd h (unhide HNK)⟩
      exact Below.trans (unhide HB3) ⟨rfl, rfl, rfl, by simp [World.setRow], fun k hk => setRow_other _ _ _ _ (by omega)⟩)
end Go.Proofs.YthhpnakgiammiaaDoor

namespace Go.Proofs.YthhpnakgiammiaaDoor
set_option linter.unusedVariables false
set_option linter.unusedSimpArgs false
open Go.ChangeShapes Go.WideShapes Go.ChangeAt Go.RowKit Go.Joins

theorem pk_of (l : List Nat) (n c s k : Nat) (hn : l.length = n) (h40 : 40 ≤ n) (hn2 : n ≤ 16360) (hc : Oct.numOf (l.take 8) = c) (hs : Oct.numOf ((l.drop 8).take 8) = s) (hk : Oct.numOf ((l.drop 16).take 8) = k) (c1 : 1 ≤ c) (c2 : c ≤ 1099511627776) (s2 : s ≤ 1099511627776) (k2 : k ≤ 1099511627776) (hsb : s = 0 ↔ n = 40) : PkOk l n := by
  have h24 : (l.take 24).length = 24 := by rw [List.length_take]; omega
  unfold PkOk pkS
  rw [nx_iff _ _ _ _ h24 (by omega), nx_iff _ _ _ _ h24 (by omega), nx_iff _ _ _ _ h24 (by omega), take_piece l 0 (by omega), take_piece l 8 (by omega), take_piece l 16 (by omega), List.drop_zero, hc, hs, hk]
  omega
set_option maxRecDepth 100000 in
set_option maxHeartbeats 8000000 in
theorem runwrap_any (ka : Option Addr) (kn kc : Nat) (up : Bool) (a : Addr) (n cap : Nat) (key l : List Nat) (c s k : Nat) (w : World) (hK : Byt w (.slice ka kn kc) key) (hk8 : U8 key) (hkl : key.length = kn) (hv : Byt w (.slice (some a) n cap) l) (h8 : U8 l) (hn : l.length = n) (h40 : 40 ≤ n) (hn2 : n ≤ 16360)
    (hc : Oct.numOf (l.take 8) = c) (hs : Oct.numOf ((l.drop 8).take 8) = s) (hk : Oct.numOf ((l.drop 16).take 8) = k) (c1 : 1 ≤ c) (c2 : c ≤ 1099511627776) (s2 : s ≤ 1099511627776) (k2 : k ≤ 1099511627776) (hsb : s = 0 ↔ n = 40) :
    Calls Tryd.prog 29 #[.slice ka kn kc, .bool up, .slice (some a) n cap] w fun e w' => UnG key kn (onceU s up) c s k (l.take 24) ((l.drop 24).take (n - 40)) ((l.drop 24).drop (n - 40)) w e w' := by
  obtain ⟨O, hO⟩ : ∃ x, onceU s up = x := ⟨_, rfl⟩
  obtain ⟨hid, hhid⟩ : ∃ x, (l.drop 24).take (n - 40) = x := ⟨_, rfl⟩
  obtain ⟨t, ht⟩ : ∃ x, (l.drop 24).drop (n - 40) = x := ⟨_, rfl⟩
  obtain ⟨hd, hhd⟩ : ∃ x, l.take 24 = x := ⟨_, rfl⟩
  rw [hO, hhid, ht, hhd]
  have HOE := hide hO
  have HHID := hide hhid
  have HHT := hide ht
  have HHD := hide hhd
  clear hO hhid ht hhd
  have hcap : n ≤ cap := by
    rcases hv with ⟨e, _⟩ | ⟨a', c', e, h1, _⟩
    · cases e
    · injection e with e1 e2 e3; omega
  have b1 : Below w.heap.size w (w.alloc (.cells #[.int .i64 0, .int .i64 0, .int .i64 0, .slice none 0 0] 37)) := (Below.refl _ _).alloc (Nat.le_refl _) _
  have hR := RowAt.new w 37 [.int .i64 0, .int .i64 0, .int .i64 0, .slice none 0 0]
  have HR := hide hR
  have HB1 := hide b1
  have hPk := rpeek_ok a n cap l (w.alloc (.cells #[.int .i64 0, .int .i64 0, .int .i64 0, .slice none 0 0] 37)) (hv.call b1) h8 hn h40 hn2 (pk_of l n c s k hn h40 hn2 hc hs hk c1 c2 s2 k2 hsb)
  rw [take_piece l 0 (by omega), take_piece l 8 (by omega), take_piece l 16 (by omega), List.drop_zero, hc, hs, hk] at hPk
  have HPK := hide hPk
  clear hPk
  rw [frV] at HPK
  have HK := hide hK
  have HK8 := hide hk8
  have HKL := hide hkl
  have HV := hide hv
  have H8 := hide h8
  have HN := hide hn
  have HON := hide (fun w => ronce_any s up w s2)
  rw [show (2 * s + (if up = true then 0 else 1)) = onceU s up from rfl, unhide HOE] at HON
  have HOL : Hid (O < 18446744073709551616) := hide (unhide HOE ▸ onceU_lt s up s2)
  have HSB := hide hsb
  have hci : (24 : Int) ≤ (cap : Int) := by omega
  have hni : (24 : Int) ≤ (n : Int) := by omega
  have hnn : 24 ≤ n := by omega
  have hcn : ¬ cap = 24 := by omega
  have hc24 : 24 ≤ cap := by omega
  clear hR b1 hK hk8 hkl hv h8 hn hc hs hk c1 c2 s2 k2 hsb
  go_enter Tryd.func29, Tryd.ntmps29
  go_wp2_with fail
  generalize w.alloc (.cells #[.int .i64 0, .int .i64 0, .int .i64 0, .slice none 0 0] 37) = w1 at *
  refine Calls.mono (unhide HPK) ?_
  rintro e w2 ⟨rfl, b2⟩
  have HB2 := hide ((unhide HB1).trans (b2.mono (unhide HB1).size))
  have HR2 := hide ((unhide HR).below b2 (unhide HR).lt)
  clear b2 HPK HB1 HR
  have b3 : Below w2.heap.size w2 (w2.alloc (.cells #[.int .i64 (c : Int), .int .i64 (s : Int), .int .i64 (k : Int), .slice none 0 0] 37)) := (Below.refl _ _).alloc (Nat.le_refl _) _
  have hF := RowAt.new w2 37 [.int .i64 (c : Int), .int .i64 (s : Int), .int .i64 (k : Int), .slice none 0 0]
  have B3 := (unhide HB2).trans (b3.mono (unhide HB2).size)
  have R3 := (unhide HR2).below b3 (unhide HR2).lt
  have hcw : (w2.alloc (.cells #[.int .i64 (c : Int), .int .i64 (s : Int), .int .i64 (k : Int), .slice none 0 0] 37)).cell? ⟨w2.heap.size, 1, none⟩ = some (.int .i64 (s : Int)) := hF.cell 1
  have HGF : Hid (w.heap.size < w2.heap.size) := hide (unhide HR2).lt
  have D3 := B3.drew
  have hsl : (l.drop 24).length = n - 24 := by rw [List.length_drop, unhide HN]
  have HFr := hide hF
  have HB3 := hide D3
  have HR3 := hide (R3.below ((Below.refl _ (w2.alloc (.cells #[.int .i64 (c : Int), .int .i64 (s : Int), .int .i64 (k : Int), .slice none 0 0] 37))).drew) R3.lt)
  obtain ⟨gf, hgf⟩ : ∃ x, w2.heap.size = x := ⟨_, rfl⟩
  by_cases hk64 : kn = 64
  · subst hk64
    have hop := ropen_any (.slice ka 64 kc) (.slice (some a) 24 cap) (.slice (some (a.add 24)) (n - 24) (cap - 24)) key (l.take 24) (l.drop 24) O (w2.alloc (.cells #[.int .i64 (c : Int), .int .i64 (s : Int), .int .i64 (k : Int), .slice none 0 0] 37)).drew ((unhide HK).call D3) (((unhide HV).call D3).take 24 (by omega)) (((unhide HV).call D3).drop 24 (by omega)) (unhide HK8) (fun y hy => unhide H8 y (List.mem_of_mem_take hy)) (fun y hy => unhide H8 y (List.mem_of_mem_drop hy)) (unhide HKL) (by rw [List.length_take, unhide HN]; omega) (by rw [hsl]; omega) (by rw [hsl]; omega) (unhide HOL)
    rw [hsl, show n - 24 - 16 = n - 40 by omega, unhide HHID, unhide HHT, unhide HHD] at hop
    have HOP := hide hop
    have HHL : Hid (hid.length = n - 40) := hide (by rw [← unhide HHID, List.length_take, hsl]; omega)
    clear b3 B3 R3 D3 hsl hop HR2 HB2 hF
    rw [hgf] at HFr HGF hcw
    by_cases hq : t = tagL key O hd hid
    · have HQ := hide hq
      clear hq
      · skip
        go_wp2_with fail
        try rw [hgf]
        generalize w2.alloc (.cells #[.int .i64 (c : Int), .int .i64 (s : Int), .int .i64 (k : Int), .slice none 0 0] 37) = w3 at *
        go_region_held (fun w' => w'.cell? ⟨gf, 1, none⟩ = some (.int .i64 (s : Int)))
          (first | exact hcw | exact k4)
          (first
            | (go_at_call 45; refine Calls.mono (unhide HON _) ?_; rintro e wx ⟨rfl, rfl⟩)
            | (go_at_call 18; refine Calls.mono (unhide HOP) ?_; rintro e w4 ⟨b4, q4, q5⟩; obtain ⟨v4, rfl, o4⟩ := q4 (unhide HQ); have k4 := cell_keep b4 (lt_of_cell hcw) hcw))
        all_goals (
          have Y4 : Byt w4 v4 (tkL key O hid) := Byt.of_own (own_cast o4 (by rw [tkL_len]) rfl)
          obtain ⟨ya, yc, hye⟩ := byt_shape Y4
          obtain ⟨yn, hyn⟩ : ∃ x, (tkL key O hid).length = x := ⟨_, rfl⟩
          rw [hyn] at hye
          subst hye
          have HOF := hide (own_off (p := fun k => k = gf ∨ k = w.heap.size) o4 (fun k hk => by
            have h1 := (unhide HFr).drew.lt
            have h2 := unhide HGF
            rcases hk with rfl | rfl <;> omega))
          have HY4 := hide Y4
          have F4 : RowAt w4 gf 37 [.int .i64 (c : Int), .int .i64 (s : Int), .int .i64 (k : Int), .slice none 0 0] := (unhide HFr).drew.below b4 (unhide HFr).drew.lt
          have R4 : RowAt w4 w.heap.size 37 [.int .i64 0, .int .i64 0, .int .i64 0, .slice none 0 0] := (unhide HR3).below b4 (unhide HR3).lt
          have z3 := F4.frozen 3
          have c3 := F4.cell 3
          have F5 : RowAt (w4.setCell ⟨gf, 3, none⟩ (.slice ya yn yc)) gf 37 [.int .i64 (c : Int), .int .i64 (s : Int), .int .i64 (k : Int), .slice ya yn yc] := F4.set 3 _
          have R5 := R4.only (p := (· = gf)) ((Only.refl _ _).set gf 3 (.slice ya yn yc) rfl) (by have := unhide HGF; omega)
          have HE2 := hide (R5.arr rfl)
          have B5 := (unhide HB3).trans (b4.mono (unhide HB3).size)
          have HB5 : Hid (Below w.heap.size w (w4.setCell ⟨gf, 3, none⟩ (.slice ya yn yc))) := hide (B5.setCell (Nat.le_of_lt (unhide HGF)) _)
          obtain ⟨E, hE⟩ : ∃ E : Array Value, ([.int .i64 (c : Int), .int .i64 (s : Int), .int .i64 (k : Int), .slice ya yn yc] : List Value).toArray = E := ⟨_, rfl⟩
          have HE1 := hide (F5.arr hE)
          have HES : Hid (E.size = 4) := hide (by rw [← hE]; rfl)
          have HEO : Hid (E.all (·.oneCell') = true) := hide (by rw [← hE]; simp only [List.all_toArray, List.all_cons, List.all_nil, Bool.and_true]; rfl)
          have HEE := hide hE
          clear b4 F4 R4 F5 R5 B5 q4 q5 o4 hE hyn Y4 HOP HON HB3 HR3 HFr hcw
          go_wp2_with (first
            | (refine wpList_load_row rfl 37 _ rfl gf (by kernel_rfl) 37 E (0, 0) _ (unhide HE1) Tryd.underlying37 rfl (by rw [z37, unhide HES]) ?_)
            | (refine wpList_store_row rfl 37 _ _ rfl w.heap.size E (by kernel_rfl) (by kernel_rfl) 37 ([.int .i64 0, .int .i64 0, .int .i64 0, .slice none 0 0] : List Value).toArray (unhide HE2) (by rw [z37, unhide HES]) (by rw [unhide HES]; rfl) (unhide HEO) ?_))
          refine bodyPost_ret (results_row_tmp Tryd.results29 _ _ w.heap.size 37 E (0, 0) _ rfl (setRow_heap _ _ _ _ _ _ (unhide HE2)) Tryd.underlying37 rfl (by rw [z37, unhide HES])) rfl ⟨?_, fun h => absurd rfl h, fun _ h => absurd (unhide HQ) h, fun _ _ => ?_⟩
          · exact Below.trans (unhide HB5) ⟨rfl, rfl, rfl, by simp [World.setRow], fun k hk => setRow_other _ _ _ _ (by omega)⟩
          · refine ⟨.slice ya yn yc, by rw [← unhide HEE]; rfl, ?_⟩
            exact Only.byt (((Only.refl (fun k => k = gf ∨ k = w.heap.size) w4).set gf 3 _ (.inl rfl)).setRow w.heap.size E (.inr rfl)) (unhide HY4) (unhide HOF))
    · have HQ := hide hq
      clear hq
      go_wp2_with fail
      try rw [hgf]
      generalize w2.alloc (.cells #[.int .i64 (c : Int), .int .i64 (s : Int), .int .i64 (k : Int), .slice none 0 0] 37) = w3 at *
      go_region_held (fun w' => w'.cell? ⟨gf, 1, none⟩ = some (.int .i64 (s : Int)))
        (first | exact hcw | exact k4)
        (first
          | (go_at_call 45; refine Calls.mono (unhide HON _) ?_; rintro e wx ⟨rfl, rfl⟩)
          | (go_at_call 18; refine Calls.mono (unhide HOP) ?_; rintro e w4 ⟨b4, q4, q5⟩; obtain rfl := q5 (unhide HQ); have k4 := cell_keep b4 (lt_of_cell hcw) hcw))
      all_goals (
        have HB5 := hide ((unhide HB3).trans (b4.mono (unhide HB3).size))
        have F4 : RowAt w4 gf 37 [.int .i64 (c : Int), .int .i64 (s : Int), .int .i64 (k : Int), .slice none 0 0] := (unhide HFr).drew.below b4 (unhide HFr).drew.lt
        have R4 : RowAt w4 w.heap.size 37 [.int .i64 0, .int .i64 0, .int .i64 0, .slice none 0 0] := (unhide HR3).below b4 (unhide HR3).lt
        have HE2 := hide (R4.arr rfl)
        clear b4 F4 R4 q4 q5 HOP HON HB3 HR3 HFr hcw
        go_wp2_with (first
          | (refine wpList_store_row rfl 37 _ _ rfl w.heap.size ([.int .i64 0, .int .i64 0, .int .i64 0, .slice none 0 0] : List Value).toArray rfl rfl 37 ([.int .i64 0, .int .i64 0, .int .i64 0, .slice none 0 0] : List Value).toArray (unhide HE2) z37 rfl (one37' 0 0 0) ?_))
        refine bodyPost_ret (results_row_tmp Tryd.results29 _ _ w.heap.size 37 ([.int .i64 0, .int .i64 0, .int .i64 0, .slice none 0 0] : List Value).toArray (0, 0) _ rfl (setRow_heap _ _ _ _ _ _ (unhide HE2)) Tryd.underlying37 rfl z37) rfl ⟨?_, fun h => absurd rfl h, fun _ _ => rfl, fun _ h => absurd h (unhide HQ)⟩
        exact Below.trans (unhide HB5) ⟨rfl, rfl, rfl, by simp [World.setRow], fun k hk => setRow_other _ _ _ _ (by omega)⟩)
  · have HON2 := hide (fun (w : World) => ropen_not ka kn kc (.slice (some a) 24 cap) (some (a.add 24)) (n - 24) (cap - 24) O w hk64)
    have HNK := hide hk64
    clear b3 B3 R3 D3 hsl HR2 HB2 hF hk64
    rw [hgf] at HFr HGF hcw
    go_wp2_with fail
    try rw [hgf]
    generalize w2.alloc (.cells #[.int .i64 (c : Int), .int .i64 (s : Int), .int .i64 (k : Int), .slice none 0 0] 37) = w3 at *
    go_region_held (fun w' => w'.cell? ⟨gf, 1, none⟩ = some (.int .i64 (s : Int)))
      (exact hcw)
      (first
        | (go_at_call 45; refine Calls.mono (unhide HON _) ?_; rintro e wx ⟨rfl, rfl⟩)
        | (go_at_call 18; refine Calls.mono (unhide HON2 _) ?_; rintro e wx ⟨rfl, rfl⟩))
    all_goals (
      have HE2 := hide ((unhide HR3).arr rfl)
      clear HON HON2 HR3 HFr
      go_wp2_with (first
        | (refine wpList_store_row rfl 37 _ _ rfl w.heap.size ([.int .i64 0, .int .i64 0, .int .i64 0, .slice none 0 0] : List Value).toArray rfl rfl 37 ([.int .i64 0, .int .i64 0, .int .i64 0, .slice none 0 0] : List Value).toArray (unhide HE2) z37 rfl (one37' 0 0 0) ?_))
      refine bodyPost_ret (results_row_tmp Tryd.results29 _ _ w.heap.size 37 ([.int .i64 0, .int .i64 0, .int .i64 0, .slice none 0 0] : List Value).toArray (0, 0) _ rfl (setRow_heap _ _ _ _ _ _ (unhide HE2)) Tryd.underlying37 rfl z37) rfl ⟨?_, fun _ => rfl, fun h => absurd h (unhide HNK), fun h => absurd h (unhide HNK)⟩
      exact Below.trans (unhide HB3) ⟨rfl, rfl, rfl, by simp [World.setRow], fun k hk => setRow_other _ _ _ _ (by omega)⟩)
end Go.Proofs.YthhpnakgiammiaaDoor

namespace Go.Proofs.YthhpnakgiammiaaDoor
set_option linter.unusedVariables false
set_option linter.unusedSimpArgs false
open Go.ChangeShapes Go.WideShapes Go.ChangeAt Go.RowKit Go.Joins

theorem rpeek_no (a : Option Addr) (n cap : Nat) (l : List Nat) (w : World) (hv : Byt w (.slice a n cap) l) (h8 : U8 l) (hn : l.length = n) (hnb : n ≤ 1000000) (hbad : ¬ PkOk l n) :
    Calls Tryd.prog 27 #[.slice a n cap] w fun e w' => e = .returned (.tuple #[frV 0 0 0 (.slice none 0 0), .int .i64 120]) ∧ Below w.heap.size w w' := by
  by_cases h : n < 40 ∨ 16360 < n
  · exact rpeek_len a n cap w hnb h
  · match a, hv with
    | none, hv =>
      exfalso
      rcases hv with ⟨e, rfl⟩ | ⟨a', c', e, _⟩
      · simp at hn; omega
      · injection e with e1 e2 e3; cases e1
    | some a, hv => exact rpeek_bad a n cap l w hv h8 hn (by omega) (by omega) hbad

set_option maxRecDepth 100000 in
set_option maxHeartbeats 4000000 in
theorem runwrap_bad (kv : Value) (up : Bool) (a : Option Addr) (n cap : Nat) (l : List Nat) (w : World) (hv : Byt w (.slice a n cap) l) (h8 : U8 l) (hn : l.length = n) (hnb : n ≤ 1000000) (hbad : ¬ PkOk l n) :
    Calls Tryd.prog 29 #[kv, .bool up, .slice a n cap] w fun e w' => e = .returned (.tuple #[frV 0 0 0 (.slice none 0 0), .int .i64 120]) ∧ Below w.heap.size w w' := by
  have b1 : Below w.heap.size w (w.alloc (.cells #[.int .i64 0, .int .i64 0, .int .i64 0, .slice none 0 0] 37)) := (Below.refl _ _).alloc (Nat.le_refl _) _
  have hR := RowAt.new w 37 [.int .i64 0, .int .i64 0, .int .i64 0, .slice none 0 0]
  have HR := hide hR
  have HB1 := hide b1
  have HPK := hide (rpeek_no a n cap l (w.alloc (.cells #[.int .i64 0, .int .i64 0, .int .i64 0, .slice none 0 0] 37)) (hv.call b1) h8 hn hnb hbad)
  rw [frV] at HPK
  clear hR b1 hv h8 hn hbad
  go_enter Tryd.func29, Tryd.ntmps29
  go_wp2_with fail
  generalize w.alloc (.cells #[.int .i64 0, .int .i64 0, .int .i64 0, .slice none 0 0] 37) = w1 at *
  refine Calls.mono (unhide HPK) ?_
  rintro e w2 ⟨rfl, b2⟩
  have b3 : Below w2.heap.size w2 (w2.alloc (.cells #[.int .i64 0, .int .i64 0, .int .i64 0, .slice none 0 0] 37)) := (Below.refl _ _).alloc (Nat.le_refl _) _
  have R2 := (unhide HR).below b2 (unhide HR).lt
  have F2 := RowAt.new w2 37 [.int .i64 0, .int .i64 0, .int .i64 0, .slice none 0 0]
  have HE2 := hide ((R2.below b3 R2.lt).arr rfl)
  have B2 := (unhide HB1).trans (b2.mono (unhide HB1).size)
  have HB7 := hide (B2.trans (b3.mono B2.size))
  obtain ⟨E, hE⟩ : ∃ E : Array Value, ([.int .i64 0, .int .i64 0, .int .i64 0, .slice none 0 0] : List Value).toArray = E := ⟨_, rfl⟩
  have HES : Hid (E.size = 4) := hide (by rw [← hE]; rfl)
  have HEO : Hid (E.all (·.oneCell') = true) := hide (by rw [← hE]; exact one37' 0 0 0)
  have HE1 := hide (F2.arr hE)
  have HEE := hide hE
  clear b2 b3 R2 B2 F2 HPK HB1 HR hE
  obtain ⟨gf, hgf⟩ : ∃ x, w2.heap.size = x := ⟨_, rfl⟩
  rw [hgf] at HE1
  go_wp2_with (first
    | (refine wpList_store_row rfl 37 _ _ rfl w.heap.size ([.int .i64 0, .int .i64 0, .int .i64 0, .slice none 0 0] : List Value).toArray rfl rfl 37 ([.int .i64 0, .int .i64 0, .int .i64 0, .slice none 0 0] : List Value).toArray (unhide HE2) z37 rfl (one37' 0 0 0) ?_))
  refine bodyPost_ret (results_row_tmp Tryd.results29 _ _ w.heap.size 37 ([.int .i64 0, .int .i64 0, .int .i64 0, .slice none 0 0] : List Value).toArray (0, 0) _ rfl (setRow_heap _ _ _ _ _ _ (unhide HE2)) Tryd.underlying37 rfl z37) rfl ⟨rfl, ?_⟩
  exact Below.trans (unhide HB7) ⟨rfl, rfl, rfl, by simp [World.setRow], fun k hk => setRow_other _ _ _ _ (by omega)⟩
end Go.Proofs.YthhpnakgiammiaaDoor

namespace Go.Proofs.YthhpnakgiammiaaDoor
set_option linter.unusedVariables false
set_option linter.unusedSimpArgs false
open Go.ChangeShapes Go.WideShapes Go.ChangeAt Go.RowKit Go.Joins

set_option maxRecDepth 100000 in
set_option maxHeartbeats 4000000 in
theorem same_frame (c s k : Int) (v x : Value) (l : List Nat) (w : World) (hv : Byt w v l) (hx : Byt w x l) (h8 : U8 l) :
    Calls Tryd.prog 30 #[frV c s k v, frV c s k x] w fun e w' => e = .returned (.bool true) ∧ Below w.heap.size w w' := by
  obtain ⟨va, vc, rfl⟩ := byt_shape hv
  obtain ⟨xa, xc, rfl⟩ := byt_shape hx
  obtain ⟨n, hn⟩ : ∃ x, l.length = x := ⟨_, rfl⟩
  rw [hn] at hv hx ⊢
  have b1 : Below w.heap.size w ((w.alloc (.cells #[.int .i64 c, .int .i64 s, .int .i64 k, .slice va n vc] 37)).alloc (.cells #[.int .i64 c, .int .i64 s, .int .i64 k, .slice xa n xc] 37)) := ((Below.refl _ _).alloc (Nat.le_refl _) _).alloc (by simp) _
  have cv := byt_convert (hv.call b1) h8
  have cx := byt_convert (hx.call b1) h8
  have HB := hide b1
  clear hv hx h8 b1 hn
  unfold frV
  go_enter Tryd.func30, Tryd.ntmps30
  go_wp2_with fail
  all_goals (
    go_ret
    exact ⟨by simp, unhide HB⟩)
end Go.Proofs.YthhpnakgiammiaaDoor
