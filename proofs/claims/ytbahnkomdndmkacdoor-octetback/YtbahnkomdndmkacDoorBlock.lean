/- Bytes and blocks at a place. -/
import Derived.Test.YtbahnkomdndmkacDoorPlace
import Derived.Deep.QuietTactic
import Derived.BigQuiet
namespace Go.Proofs.YtbahnkomdndmkacDoor
set_option linter.unusedVariables false
set_option linter.unusedSimpArgs false
open Go.ChangeShapes Go.WideShapes Go.ChangeAt Go.RowKit

set_option maxHeartbeats 2000000 in
theorem bytes_any (g o : Nat) (a : Option Addr) (n cap : Nat) (l : List Nat) (k : Nat) (most : Int) (w : World) (hv : Byt w (.slice a n cap) l) (hp : Pl w g o (.slice a n cap) k) (hg : Low (.slice a n cap) g) (hl : n ≤ 1000000000) (h256 : ∀ y ∈ l, y < 256)
    (m : Nat) (hm : numOf ((l.drop k).take 8) = m) (hk : k + 8 + m ≤ n) (hmost : (m : Int) ≤ max most 0) :
    Calls Tryd.prog 48 #[.pointer (some ⟨g, o, none⟩), .int .i64 most] w fun e w' => ∃ v', e = .returned (.tuple #[v', .int .i64 0]) ∧ Byt w' v' ((l.drop (k + 8)).take m) ∧ Pl w' g o (.slice a n cap) (k + 8 + m) ∧ Moved w w' g o ∧ (∀ G, Low (.slice a n cap) G → Low v' G) := by
  have hF := hp.1
  have hgz := hp.2
  have hq := Pl.fresh (w := w) (v := .slice a n cap) (k := k)
  have hb0 : Below w.heap.size w (w.alloc (.cells #[.slice a n cap, .int .i64 (k : Int)] 63)) := (Below.refl _ _).alloc (Nat.le_refl _) _
  have hv1 := hv.call hb0
  have hg1 : Low (.slice a n cap) w.heap.size := hg.mono (Nat.le_of_lt hgz)
  have hln := byt_len hv
  have HLN := hide hln
  have HM := hide hm
  have H256 := hide h256
  have hk' : k + 8 + m ≤ l.length := by rw [hln]; exact hk
  have hl' : l.length ≤ 1000000000 := by rw [hln]; exact hl
  clear hm h256 hln
  go_enter Tryd.func48, Tryd.ntmps48
  go_wp2_with fail
  refine (within_any w.heap.size 0 a n cap l k 0 9223372036854775807 _ hv1 hq hg1 hl (by omega) (unhide H256) m (unhide HM) ⟨by omega, by omega⟩ (by omega)).mono ?_
  rintro e w1 ⟨rfl, hq1, hm1⟩
  have hbelow : Below (w.heap.size) w w1 := hb0.trans hm1.1
  have hv2 : Byt w1 (.slice a n cap) l := hv.low hbelow hg1
  have hQF := hq1.1
  have t1 : decide (max most 0 < (m : Int)) = false := by simp; omega
  go_wp2_with fail
  all_goals (
    refine (take_any w.heap.size 0 (.slice a n cap) l (k + 8) m _ hv2 hq1 hg1 hl' hk').mono ?_
    rintro e w2 ⟨v2, rfl, hv3, hq2, hm2, hlow⟩
    have hbelow2 : Below (w.heap.size) w w2 := hbelow.trans hm2.1
    have hpw2 : Pl w2 g o (.slice a n cap) k := hp.below (hbelow2.mono hgz)
    have hQF2 := hq2.1
    have hPF2 := hpw2.1
    clear hQF
    go_wp2_with fail
    go_ret2
    have q := Pl.put hpw2 (.slice a n cap) (k + 8 + m)
    refine ⟨_, rfl, ?_, ?_, ?_, hlow⟩
    · refine hv3.low (g := g) ?_ (hlow g hg)
      exact ((Below.refl g w2).setCell (Nat.le_refl g) _).setCell (Nat.le_refl g) _
    · simpa using q.1
    · refine (Moved.below hgz hbelow2).trans ?_
      simpa using q.2)
theorem Byt.drew {w : World} {v : Value} {l : List Nat} (h : Byt w v l) (d : Nat) : Byt (w.drewN d) v l := by
  rcases h with h | ⟨a, cap, hv, h1, h2, h3⟩
  · exact .inl h
  · exact .inr ⟨a, cap, hv, h1, h2, fun i y hy => by have := h3 i y hy; simpa using this⟩
theorem or32 (a b i : Nat) (h : b < 2 ^ i) (ha : a * 2 ^ i < 4294967296) (hb : b < 4294967296) : bits .or .u32 ((a * 2 ^ i : Nat) : Int) (b : Int) = ((a * 2 ^ i + b : Nat) : Int) := by
  rw [u32_or_nat _ _ ha hb]
  congr 1
  rw [← Nat.shiftLeft_eq, ← Nat.shiftLeft_add_eq_or_of_lt h]
theorem or32' (a b i p : Nat) (x y z : Int) (hi : 2 ^ i = p) (h : b < p) (ha : a * p < 4294967296) (hb : b < 4294967296) (hx : x = ((a * p : Nat) : Int)) (hy : y = ((b : Nat) : Int)) (hz : z = ((a * p + b : Nat) : Int)) : bits .or .u32 x y = z := by
  subst hx hy hz hi
  exact or32 a b i h ha hb
theorem join32 (y0 y1 y2 y3 : Nat) (s : Int) (z0 : y0 < 256) (z1 : y1 < 256) (z2 : y2 < 256) (z3 : y3 < 256) (hs : s = ((y0 * 16777216 + y1 * 65536 + y2 * 256 + y3 : Nat) : Int)) :
    bits .or .u32 ((y0 : Int) * 16777216) ((y1 : Int) * 65536) = (y0 : Int) * 16777216 + (y1 : Int) * 65536 ∧ bits .or .u32 ((y0 : Int) * 16777216 + (y1 : Int) * 65536) ((y2 : Int) * 256) = (y0 : Int) * 16777216 + (y1 : Int) * 65536 + (y2 : Int) * 256 ∧ bits .or .u32 ((y0 : Int) * 16777216 + (y1 : Int) * 65536 + (y2 : Int) * 256) (y3 : Int) = s := by
  refine ⟨?_, ?_, ?_⟩
  · exact or32' y0 (y1 * 65536) 24 16777216 _ _ _ (by decide) (by omega) (by omega) (by omega) (by omega) (by omega) (by omega)
  · exact or32' (y0 * 256 + y1) (y2 * 256) 16 65536 _ _ _ (by decide) (by omega) (by omega) (by omega) (by omega) (by omega) (by omega)
  · exact or32' (y0 * 65536 + y1 * 256 + y2) y3 8 256 _ _ _ (by decide) (by omega) (by omega) (by omega) (by omega) rfl (hs.trans (congrArg Nat.cast (by omega)))
theorem slice_byt {w : World} {a : Addr} {l : List Nat} {cap k m n : Nat} (h : ∀ (i y : Nat), l[i]? = some y → w.cell? (a.add i) = some (.int .u8 (y : Int))) (hn : l.length = n) (hk : k + m ≤ n) (hc : n ≤ cap) (hm : cap ≤ maxLen) :
    Byt w (.slice (some (a.add k)) m (cap - k)) ((l.drop k).take m) :=
  take_byt (g := a.block + 1) (o := 0) h hn hk hc hm (fun _ => Nat.lt_succ_self _) (Moved.refl _ _ _)

set_option maxHeartbeats 2000000 in
theorem block_any (g o : Nat) (a : Option Addr) (n cap : Nat) (l : List Nat) (k : Nat) (w : World) (hv : Byt w (.slice a n cap) l) (hp : Pl w g o (.slice a n cap) k) (hg : Low (.slice a n cap) g) (hl : n ≤ 1000000000) (h256 : ∀ y ∈ l, y < 256)
    (m : Nat) (hm : numOf ((l.drop k).take 8) = m) (hk : k + 8 + m + 4 ≤ n) (hmost : m ≤ 16384) (hsum : (l.drop (k + 8 + m)).take 4 = sum4 (sumTo ((l.drop k).take (8 + m)))) :
    Calls Tryd.prog 53 #[.pointer (some ⟨g, o, none⟩)] w fun e w' => ∃ v', e = .returned (.tuple #[v', .int .i64 0]) ∧ Byt w' v' ((l.drop (k + 8)).take m) ∧ Pl w' g o (.slice a n cap) (k + 8 + m + 4) ∧ Moved w w' g o ∧ (∀ G, Low (.slice a n cap) G → Low v' G) := by
  have hF := hp.1
  have hgz := hp.2
  have hq := Pl.fresh (w := w) (v := .slice a n cap) (k := k)
  have hb0 : Below w.heap.size w (w.alloc (.cells #[.slice a n cap, .int .i64 (k : Int)] 63)) := (Below.refl _ _).alloc (Nat.le_refl _) _
  have hv1 := hv.call hb0
  have hg1 : Low (.slice a n cap) w.heap.size := hg.mono (Nat.le_of_lt hgz)
  have hln := byt_len hv
  have HLN := hide hln
  have HM := hide hm
  have HS := hide hsum
  have H256 := hide h256
  have hk' : k + 8 + m + 4 ≤ l.length := by rw [hln]; exact hk
  have hl' : l.length ≤ 1000000000 := by rw [hln]; exact hl
  have h256' : ∀ y ∈ (l.drop k).take (8 + m), y < 256 := fun y hy => h256 y (List.mem_of_mem_drop (List.mem_of_mem_take hy))
  have HR := hide (sum_r32 _ h256')
  have H256' := hide h256'
  have hlen' : ((l.drop k).take (8 + m)).length ≤ 1000000000 := by rw [List.length_take, List.length_drop]; omega
  clear hm h256 hln hsum h256'
  go_enter Tryd.func53, Tryd.ntmps53
  go_wp2_with fail
  refine (bytes_any w.heap.size 0 a n cap l k 16384 _ hv1 hq hg1 hl (unhide H256) m (unhide HM) (by omega) (by omega)).mono ?_
  rintro e w1 ⟨v1, rfl, hd1, hq1, hm1, hlow1⟩
  have hbelow : Below (w.heap.size) w w1 := hb0.trans hm1.1
  have hv2 : Byt w1 (.slice a n cap) l := hv.low hbelow hg1
  have hp1 : Pl w1 g o (.slice a n cap) k := hp.below (hbelow.mono hgz)
  have hQF := hq1.1
  have hPF := hp1.1
  rcases id hv2 with ⟨h0, h1⟩ | ⟨a0, cap0, h0, c1, c2, c3⟩
  · rw [h1] at hk'; simp at hk'
  injection h0 with e1 e2 e3
  subst e1 e3
  have hs1 := slice_byt (k := k) (m := 8 + m) c3 (unhide HLN) (by omega) (by omega) c2
  have HC := hide c3
  clear c3
  rw [unhide HLN] at e2 c1
  have g1 : (0 : Int) ≤ (k : Int) := by omega
  have g2 : (k : Int) ≤ (k : Int) + 8 + (m : Int) := by omega
  have g3 : (k : Int) + 8 + (m : Int) ≤ (cap : Int) := by omega
  have g4 : k ≠ cap := by omega
  have g5 : k + 8 + m - k = 8 + m := by omega
  go_wp2_with fail
  go_quiet (fail)
  have hq1b : Pl (w1.drewN nq) w.heap.size 0 (.slice (some a0) n cap) (k + 8 + m) := hq1.below (Joins.below_draws _ _ nq)
  have hv2b : Byt (w1.drewN nq) (.slice (some a0) n cap) l := hv2.low (Joins.below_draws (w.heap.size) _ nq) hg1
  go_wp2_with fail
  refine (take_any w.heap.size 0 (.slice (some a0) n cap) l (k + 8 + m) 4 _ hv2b hq1b hg1 hl' hk').mono ?_
  rintro e w2 ⟨v2, rfl, hv3, hq2, hm2, hlow⟩
  have hbw2 : Below w.heap.size w1 w2 := (Joins.below_draws (w.heap.size) _ nq).trans hm2.1
  have hs2 : Byt w2 (.slice (some (a0.add k)) (8 + m) (cap - k)) ((l.drop k).take (8 + m)) := by
    refine hs1.low hbw2 ?_
    intro a' n' cap' e hpos
    injection e with e3 e4 _
    injection e3 with e5
    subst e5
    have hlt := hg1 a0 n cap rfl (by omega)
    obtain ⟨b, off, s⟩ := a0
    simp only [Addr.add]
    split <;> exact hlt
  obtain ⟨s, hs⟩ : ∃ s, sumTo ((l.drop k).take (8 + m)) = s := ⟨_, rfl⟩
  rw [hs] at HS HR
  rw [unhide HS] at hv3
  have hr := unhide HR
  rcases hv3 with ⟨_, h0⟩ | ⟨a3, cap3, rfl, d1, d2, d3⟩
  · cases h0
  obtain ⟨b3, off3, rfl⟩ := plain_of d3 (by show 0 < 4; decide)
  have k0 := d3 0 _ rfl
  have k1 := d3 1 _ rfl
  have k2 := d3 2 _ rfl
  have k3 := d3 3 _ rfl
  rw [add_plain] at k0 k1 k2 k3
  rw [Nat.add_zero] at k0
  obtain ⟨y0, hy0⟩ : ∃ y, (s / 16777216).toNat = y := ⟨_, rfl⟩
  obtain ⟨y1, hy1⟩ : ∃ y, (s / 65536 % 256).toNat = y := ⟨_, rfl⟩
  obtain ⟨y2, hy2⟩ : ∃ y, (s / 256 % 256).toNat = y := ⟨_, rfl⟩
  obtain ⟨y3, hy3⟩ : ∃ y, (s % 256).toNat = y := ⟨_, rfl⟩
  rw [hy0] at k0
  rw [hy1] at k1
  rw [hy2] at k2
  rw [hy3] at k3
  have hb := hr.1
  have hb' := hr.2
  have z0 : y0 < 256 := by omega
  have z1 : y1 < 256 := by omega
  have z2 : y2 < 256 := by omega
  have z3 : y3 < 256 := by omega
  have HJ := hide (show s = ((y0 * 16777216 + y1 * 65536 + y2 * 256 + y3 : Nat) : Int) by omega)
  clear hy0 hy1 hy2 hy3
  obtain ⟨x1, x2, x3⟩ := join32 y0 y1 y2 y3 s z0 z1 z2 z3 (unhide HJ)
  have hl4 : (sum4 s).length = 4 := rfl
  rw [hl4] at d1 ⊢
  clear d3
  have HS1 := hide hs1
  clear hs1 hl4
  have hp2 : Pl w2 g o (.slice (some a0) n cap) k := hp1.below (hbw2.mono hgz)
  have hd2 : Byt w2 v1 ((l.drop (k + 8)).take m) := hd1.low hbw2 (hlow1 _ hg1)
  have hQF2 := hq2.1
  have hPF2 := hp2.1
  clear hQF hPF hF
  go_wp2_with fail
  have hc25 : ∀ d, Calls Tryd.prog 17 #[.slice (some (a0.add k)) (8 + m) (cap - k)] (w2.drewN d) fun e w' => e = .returned (.int .u32 s) ∧ w' = w2.drewN d := fun d =>
    (sum_any _ _ _ (hs2.drew d) (unhide H256') hlen').mono (fun e w' h => ⟨by rw [h.1, hs], h.2.symm⟩)
  have HC25 := hide hc25
  clear hc25
  go_quiet ((go_at_call 17; exact Calls.quiet_of_same (unhide HC25 _)))
  have hd3 := hd2.drew nq
  have hp3 : Pl (w2.drewN nq) g o (.slice (some a0) n cap) k := hp2.below (Joins.below_draws _ _ nq)
  go_wp2_with fail
  go_ret2
  have q := Pl.put hp3 (.slice (some a0) n cap) (k + 8 + m + 4)
  refine ⟨_, rfl, ?_, ?_, ?_, hlow1⟩
  · refine hd3.low (g := g) ?_ (hlow1 g hg)
    exact ((Below.refl g _).setCell (Nat.le_refl g) _).setCell (Nat.le_refl g) _
  · simpa using q.1
  · refine (Moved.below hgz (hbelow.trans (hbw2.trans (Joins.below_draws _ _ nq)))).trans ?_
    simpa using q.2
end Go.Proofs.YtbahnkomdndmkacDoor
