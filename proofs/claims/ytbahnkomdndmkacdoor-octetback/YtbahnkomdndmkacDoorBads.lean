/- Blocks that are none. -/
import Derived.Test.YtbahnkomdndmkacDoorBad
namespace Go.Proofs.YtbahnkomdndmkacDoor
set_option linter.unusedVariables false
set_option linter.unusedSimpArgs false
open Go.ChangeShapes Go.WideShapes Go.ChangeAt Go.RowKit

theorem sum4_nat (n : Nat) : sum4 (n : Int) = [n / 16777216, n / 65536 % 256, n / 256 % 256, n % 256] := by
  simp only [sum4, List.cons.injEq, and_true]
  refine ⟨?_, ?_, ?_, ?_⟩ <;> rfl
theorem sum4_join (y0 y1 y2 y3 : Nat) (z0 : y0 < 256) (z1 : y1 < 256) (z2 : y2 < 256) (z3 : y3 < 256) : sum4 ((y0 * 16777216 + y1 * 65536 + y2 * 256 + y3 : Nat) : Int) = [y0, y1, y2, y3] := by
  rw [sum4_nat]
  simp only [List.cons.injEq, and_true]
  refine ⟨?_, ?_, ?_, ?_⟩ <;> omega
set_option maxHeartbeats 2000000 in
theorem block_sum (g o : Nat) (a : Option Addr) (n cap : Nat) (l : List Nat) (k : Nat) (w : World) (hv : Byt w (.slice a n cap) l) (hp : Pl w g o (.slice a n cap) k) (hg : Low (.slice a n cap) g) (hl : n ≤ 1000000000) (h256 : ∀ y ∈ l, y < 256)
    (m : Nat) (hm : numOf ((l.drop k).take 8) = m) (hk : k + 8 + m + 4 ≤ n) (hmost : m ≤ 16384) (hsum : (l.drop (k + 8 + m)).take 4 ≠ sum4 (sumTo ((l.drop k).take (8 + m)))) :
    Calls Tryd.prog 53 #[.pointer (some ⟨g, o, none⟩)] w fun e w' => e = .returned (.tuple #[.slice none 0 0, .int .i64 20]) ∧ Below w.heap.size w w' := by
  have hF := hp.1
  have hgz := hp.2
  have hq := Pl.fresh (w := w) (v := .slice a n cap) (k := k)
  have hb0 : Below w.heap.size w (w.alloc (.cells #[.slice a n cap, .int .i64 (k : Int)] 63)) := (Below.refl _ _).alloc (Nat.le_refl _) _
  have hv1 := hv.call hb0
  have hg1 : Low (.slice a n cap) w.heap.size := hg.mono (Nat.le_of_lt hgz)
  have hln := byt_len hv
  have HLN := hide hln
  have HM := hide hm
  have HS := hide hsum
  have H256 := hide h256
  have hk' : k + 8 + m + 4 ≤ l.length := by rw [hln]; exact hk
  have hl' : l.length ≤ 1000000000 := by rw [hln]; exact hl
  have h256' : ∀ y ∈ (l.drop k).take (8 + m), y < 256 := fun y hy => h256 y (List.mem_of_mem_drop (List.mem_of_mem_take hy))
  have HR := hide (sum_r32 _ h256')
  have H256' := hide h256'
  have hlen' : ((l.drop k).take (8 + m)).length ≤ 1000000000 := by rw [List.length_take, List.length_drop]; omega
  clear hm h256 hln hsum h256'
  go_enter Tryd.func53, Tryd.ntmps53
  go_wp2_with fail
  refine (bytes_any w.heap.size 0 a n cap l k 16384 _ hv1 hq hg1 hl (unhide H256) m (unhide HM) (by omega) (by omega)).mono ?_
  rintro e w1 ⟨v1, rfl, hd1, hq1, hm1, hlow1⟩
  have hbelow : Below (w.heap.size) w w1 := hb0.trans hm1.1
  have hv2 : Byt w1 (.slice a n cap) l := hv.low hbelow hg1
  have hp1 : Pl w1 g o (.slice a n cap) k := hp.below (hbelow.mono hgz)
  have hQF := hq1.1
  have hPF := hp1.1
  rcases id hv2 with ⟨h0, h1⟩ | ⟨a0, cap0, h0, c1, c2, c3⟩
  · rw [h1] at hk'; simp at hk'
  injection h0 with e1 e2 e3
  subst e1 e3
  have hs1 := slice_byt (k := k) (m := 8 + m) c3 (unhide HLN) (by omega) (by omega) c2
  have HC := hide c3
  clear c3
  rw [unhide HLN] at e2 c1
  have g1 : (0 : Int) ≤ (k : Int) := by omega
  have g2 : (k : Int) ≤ (k : Int) + 8 + (m : Int) := by omega
  have g3 : (k : Int) + 8 + (m : Int) ≤ (cap : Int) := by omega
  have g4 : k ≠ cap := by omega
  have g5 : k + 8 + m - k = 8 + m := by omega
  go_wp2_with fail
  go_quiet (fail)
  have hq1b : Pl (w1.drewN nq) w.heap.size 0 (.slice (some a0) n cap) (k + 8 + m) := hq1.below (Joins.below_draws _ _ nq)
  have hv2b : Byt (w1.drewN nq) (.slice (some a0) n cap) l := hv2.low (Joins.below_draws (w.heap.size) _ nq) hg1
  go_wp2_with fail
  refine (take_any w.heap.size 0 (.slice (some a0) n cap) l (k + 8 + m) 4 _ hv2b hq1b hg1 hl' hk').mono ?_
  rintro e w2 ⟨v2, rfl, hv3, hq2, hm2, hlow⟩
  have hbw2 : Below w.heap.size w1 w2 := (Joins.below_draws (w.heap.size) _ nq).trans hm2.1
  have hs2 : Byt w2 (.slice (some (a0.add k)) (8 + m) (cap - k)) ((l.drop k).take (8 + m)) := by
    refine hs1.low hbw2 ?_
    intro a' n' cap' e hpos
    injection e with e3 e4 _
    injection e3 with e5
    subst e5
    have hlt := hg1 a0 n cap rfl (by omega)
    obtain ⟨b, off, s⟩ := a0
    simp only [Addr.add]
    split <;> exact hlt
  obtain ⟨s, hs⟩ : ∃ s, sumTo ((l.drop k).take (8 + m)) = s := ⟨_, rfl⟩
  rw [hs] at HS HR
  obtain ⟨ys, hys⟩ : ∃ ys, (l.drop (k + 8 + m)).take 4 = ys := ⟨_, rfl⟩
  have hyl : ys.length = 4 := by rw [← hys, List.length_take, List.length_drop]; omega
  have hy256 : ∀ y ∈ ys, y < 256 := fun y hy => unhide H256 y (List.mem_of_mem_drop (List.mem_of_mem_take (by rw [hys]; exact hy)))
  rw [hys] at HS hv3
  have hr := unhide HR
  match ys, hyl with
  | [y0, y1, y2, y3], _ =>
  have z0 := hy256 y0 (by simp)
  have z1 := hy256 y1 (by simp)
  have z2 := hy256 y2 (by simp)
  have z3 := hy256 y3 (by simp)
  have hne : s ≠ ((y0 * 16777216 + y1 * 65536 + y2 * 256 + y3 : Nat) : Int) := by
    intro e
    apply unhide HS
    rw [e, sum4_join y0 y1 y2 y3 z0 z1 z2 z3]
  clear hys hy256
  rcases hv3 with ⟨_, h0⟩ | ⟨a3, cap3, rfl, d1, d2, d3⟩
  · cases h0
  obtain ⟨b3, off3, rfl⟩ := plain_of d3 (by show 0 < 4; decide)
  have k0 := d3 0 _ rfl
  have k1 := d3 1 _ rfl
  have k2 := d3 2 _ rfl
  have k3 := d3 3 _ rfl
  rw [add_plain] at k0 k1 k2 k3
  rw [Nat.add_zero] at k0
  obtain ⟨J, hJ⟩ : ∃ J : Int, J = ((y0 * 16777216 + y1 * 65536 + y2 * 256 + y3 : Nat) : Int) := ⟨_, rfl⟩
  rw [← hJ] at hne
  obtain ⟨x1, x2, x3⟩ := join32 y0 y1 y2 y3 J z0 z1 z2 z3 hJ
  have hnb : (s != J) = true := by simpa using hne
  have hne2 : ¬ s = J := hne
  clear hJ
  have hl4 : [y0, y1, y2, y3].length = 4 := rfl
  rw [hl4] at d1 ⊢
  clear d3
  have HS1 := hide hs1
  clear hs1 hl4
  have hp2 : Pl w2 g o (.slice (some a0) n cap) k := hp1.below (hbw2.mono hgz)
  have hd2 : Byt w2 v1 ((l.drop (k + 8)).take m) := hd1.low hbw2 (hlow1 _ hg1)
  have hQF2 := hq2.1
  have hPF2 := hp2.1
  clear hQF hPF hF
  go_wp2_with fail
  have hc25 : ∀ d, Calls Tryd.prog 17 #[.slice (some (a0.add k)) (8 + m) (cap - k)] (w2.drewN d) fun e w' => e = .returned (.int .u32 s) ∧ w' = w2.drewN d := fun d =>
    (sum_any _ _ _ (hs2.drew d) (unhide H256') hlen').mono (fun e w' h => ⟨by rw [h.1, hs], h.2.symm⟩)
  have HC25 := hide hc25
  clear hc25
  go_quiet ((go_at_call 17; exact Calls.quiet_of_same (unhide HC25 _)))
  go_wp2_with fail
  go_ret2
  exact ⟨rfl, hbelow.trans (hbw2.trans (Joins.below_draws _ _ nq))⟩

set_option maxHeartbeats 2000000 in
theorem block_short (g o : Nat) (a : Option Addr) (n cap : Nat) (l : List Nat) (k : Nat) (w : World) (hv : Byt w (.slice a n cap) l) (hp : Pl w g o (.slice a n cap) k) (hg : Low (.slice a n cap) g) (hl : n ≤ 1000000000) (h256 : ∀ y ∈ l, y < 256)
    (m : Nat) (hm : numOf ((l.drop k).take 8) = m) (hk : k + 8 + m ≤ n) (hks : n < k + 8 + m + 4) (hmost : m ≤ 16384) :
    Calls Tryd.prog 53 #[.pointer (some ⟨g, o, none⟩)] w fun e w' => e = .returned (.tuple #[.slice none 0 0, .int .i64 2]) ∧ Below w.heap.size w w' := by
  have hF := hp.1
  have hgz := hp.2
  have hq := Pl.fresh (w := w) (v := .slice a n cap) (k := k)
  have hb0 : Below w.heap.size w (w.alloc (.cells #[.slice a n cap, .int .i64 (k : Int)] 63)) := (Below.refl _ _).alloc (Nat.le_refl _) _
  have hv1 := hv.call hb0
  have hg1 : Low (.slice a n cap) w.heap.size := hg.mono (Nat.le_of_lt hgz)
  have hln := byt_len hv
  have HLN := hide hln
  have HM := hide hm
  have H256 := hide h256
  have hk' : k + 8 + m ≤ l.length := by rw [hln]; exact hk
  have hl' : l.length ≤ 1000000000 := by rw [hln]; exact hl
  have h256' : ∀ y ∈ (l.drop k).take (8 + m), y < 256 := fun y hy => h256 y (List.mem_of_mem_drop (List.mem_of_mem_take hy))
  have HR := hide (sum_r32 _ h256')
  have H256' := hide h256'
  have hlen' : ((l.drop k).take (8 + m)).length ≤ 1000000000 := by rw [List.length_take, List.length_drop]; omega
  clear hm h256 hln h256'
  go_enter Tryd.func53, Tryd.ntmps53
  go_wp2_with fail
  refine (bytes_any w.heap.size 0 a n cap l k 16384 _ hv1 hq hg1 hl (unhide H256) m (unhide HM) (by omega) (by omega)).mono ?_
  rintro e w1 ⟨v1, rfl, hd1, hq1, hm1, hlow1⟩
  have hbelow : Below (w.heap.size) w w1 := hb0.trans hm1.1
  have hv2 : Byt w1 (.slice a n cap) l := hv.low hbelow hg1
  have hp1 : Pl w1 g o (.slice a n cap) k := hp.below (hbelow.mono hgz)
  have hQF := hq1.1
  have hPF := hp1.1
  rcases id hv2 with ⟨h0, h1⟩ | ⟨a0, cap0, h0, c1, c2, c3⟩
  · rw [h1] at hk'; simp at hk'
  injection h0 with e1 e2 e3
  subst e1 e3
  have hs1 := slice_byt (k := k) (m := 8 + m) c3 (unhide HLN) (by omega) (by omega) c2
  have HC := hide c3
  clear c3
  rw [unhide HLN] at e2 c1
  have g1 : (0 : Int) ≤ (k : Int) := by omega
  have g2 : (k : Int) ≤ (k : Int) + 8 + (m : Int) := by omega
  have g3 : (k : Int) + 8 + (m : Int) ≤ (cap : Int) := by omega
  have g4 : k ≠ cap := by omega
  have g5 : k + 8 + m - k = 8 + m := by omega
  go_wp2_with fail
  go_quiet (fail)
  have hq1b : Pl (w1.drewN nq) w.heap.size 0 (.slice (some a0) n cap) (k + 8 + m) := hq1.below (Joins.below_draws _ _ nq)
  go_wp2_with fail
  refine (take_short w.heap.size 0 (some a0) n cap (k + 8 + m) 4 _ hq1b (by omega) (by unfold maxLen; omega) (by omega)).mono ?_
  rintro e w2 ⟨rfl, d, rfl⟩
  go_wp2_with fail
  go_ret2
  exact ⟨rfl, hbelow.trans (Joins.below_draws _ _ _)⟩

/-- why there is no block -/
def BadBlock (l : List Nat) (k : Nat) (e0 : Int) : Prop :=
  (BadBytes l k 16384 e0 ∧ e0 ≠ 0) ∨
  ∃ m, numOf ((l.drop k).take 8) = m ∧ m ≤ 16384 ∧ k + 8 + m ≤ l.length ∧ ((l.length < k + 8 + m + 4 ∧ e0 = 2) ∨ (k + 8 + m + 4 ≤ l.length ∧ (l.drop (k + 8 + m)).take 4 ≠ sum4 (sumTo ((l.drop k).take (8 + m))) ∧ e0 = 20))

theorem bad_pos {l : List Nat} {k : Nat} {most e0 : Int} (h : BadBytes l k most e0) : e0 ≠ 0 := by
  rcases h with ⟨_, rfl⟩ | ⟨_, _, rfl⟩ | ⟨_, _, _, rfl⟩ | ⟨_, _, _, _, rfl⟩ <;> decide

set_option maxHeartbeats 2000000 in
theorem block_bytes (g o : Nat) (a : Option Addr) (n cap : Nat) (l : List Nat) (k : Nat) (e0 : Int) (w : World) (hv : Byt w (.slice a n cap) l) (hp : Pl w g o (.slice a n cap) k) (hg : Low (.slice a n cap) g) (hl : n ≤ 1000000000) (hkn : k ≤ n) (h256 : ∀ y ∈ l, y < 256)
    (hbad : BadBytes l k 16384 e0) :
    Calls Tryd.prog 53 #[.pointer (some ⟨g, o, none⟩)] w fun e w' => e = .returned (.tuple #[.slice none 0 0, .int .i64 e0]) ∧ Below w.heap.size w w' := by
  have hF := hp.1
  have hgz := hp.2
  have hq := Pl.fresh (w := w) (v := .slice a n cap) (k := k)
  have hb0 : Below w.heap.size w (w.alloc (.cells #[.slice a n cap, .int .i64 (k : Int)] 63)) := (Below.refl _ _).alloc (Nat.le_refl _) _
  have hv1 := hv.call hb0
  have hg1 : Low (.slice a n cap) w.heap.size := hg.mono (Nat.le_of_lt hgz)
  have hpos := bad_pos hbad
  have HB := hide hbad
  have H256 := hide h256
  clear hbad h256
  go_enter Tryd.func53, Tryd.ntmps53
  go_wp2_with fail
  refine (bytes_bad w.heap.size 0 a n cap l k 16384 e0 _ hv1 hq hg1 hl hkn (unhide H256) (unhide HB)).mono ?_
  rintro e w1 ⟨rfl, hb1⟩
  have hnb : (e0 != 0) = true := by simpa using hpos
  go_wp2_with fail
  go_ret2
  exact ⟨rfl, hb0.trans (hb1.mono hb0.size)⟩

theorem block_bad (g o : Nat) (a : Option Addr) (n cap : Nat) (l : List Nat) (k : Nat) (e0 : Int) (w : World) (hv : Byt w (.slice a n cap) l) (hp : Pl w g o (.slice a n cap) k) (hg : Low (.slice a n cap) g) (hl : n ≤ 1000000000) (hkn : k ≤ n) (h256 : ∀ y ∈ l, y < 256)
    (hbad : BadBlock l k e0) :
    Calls Tryd.prog 53 #[.pointer (some ⟨g, o, none⟩)] w fun e w' => e = .returned (.tuple #[.slice none 0 0, .int .i64 e0]) ∧ Below w.heap.size w w' := by
  have hln := byt_len hv
  rcases hbad with ⟨h, _⟩ | ⟨m, hm, h1, h2, ⟨h3, rfl⟩ | ⟨h3, h4, rfl⟩⟩
  · exact block_bytes g o a n cap l k e0 w hv hp hg hl hkn h256 h
  · exact block_short g o a n cap l k w hv hp hg hl h256 m hm (by omega) (by omega) h1
  · exact block_sum g o a n cap l k w hv hp hg hl h256 m hm (by omega) h1 h4
theorem badBlock_pos {l : List Nat} {k : Nat} {e0 : Int} (h : BadBlock l k e0) : e0 ≠ 0 := by
  rcases h with ⟨_, h⟩ | ⟨m, _, _, _, ⟨_, rfl⟩ | ⟨_, _, rfl⟩⟩
  · exact h
  · decide
  · decide

set_option maxHeartbeats 2000000 in
theorem open_bad (a : Option Addr) (n cap : Nat) (l : List Nat) (e0 : Int) (w : World) (hv : Byt w (.slice a n cap) l) (hg : Low (.slice a n cap) w.heap.size) (hl : n ≤ 1000000000) (h256 : ∀ y ∈ l, y < 256)
    (hbad : BadBlock l 0 e0) :
    Calls Tryd.prog 33 #[.slice a n cap] w fun e w' => e = .returned (.tuple #[.slice none 0 0, .int .i64 0, .int .i64 e0]) ∧ Below w.heap.size w w' := by
  have hq : Pl (w.alloc (.cells #[.slice a n cap, .int .i64 0] 63)) w.heap.size 0 (.slice a n cap) 0 := by
    have q := Pl.fresh (w := w) (v := .slice a n cap) (k := 0)
    simpa using q
  have hb0 : Below w.heap.size w (w.alloc (.cells #[.slice a n cap, .int .i64 0] 63)) := (Below.refl _ _).alloc (Nat.le_refl _) _
  have hv1 := hv.call hb0
  have hpos := badBlock_pos hbad
  have HB := hide hbad
  have H256 := hide h256
  clear hbad h256
  go_enter Tryd.func33, Tryd.ntmps33
  go_wp2_with fail
  refine (block_bad w.heap.size 0 a n cap l 0 e0 _ hv1 hq hg hl (Nat.zero_le _) (unhide H256) (unhide HB)).mono ?_
  rintro e w1 ⟨rfl, hb1⟩
  have hnb : (e0 != 0) = true := by simpa using hpos
  go_wp2_with fail
  go_ret3
  exact ⟨rfl, hb0.trans (hb1.mono hb0.size)⟩
end Go.Proofs.YtbahnkomdndmkacDoor
