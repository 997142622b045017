/- The places that are seen, and those that see. -/
import Derived.Test.YtbahnkomdndmkaaPolicy
namespace Go.Proofs.Ytbahnkomdndmkaa
set_option linter.unusedVariables false
set_option linter.unusedSimpArgs false
open Go.ChangeShapes Go.WideShapes Go.ChangeAt Go.RowKit

theorem PB.call1 {w W w1 : World} {s0 s1 s2 : Value} (h : PB w s0 s1 s2 W) (hb : Below (w.heap.size + 1) W w1) : PB w s0 s1 s2 w1 := by
  obtain ⟨⟨h0, h1, h2⟩, hs, bl⟩ := h
  have hz := hb.size
  exact ⟨⟨cell_keep hb (Nat.lt_succ_self _) h0, cell_keep hb (Nat.lt_succ_self _) h1, cell_keep hb (Nat.lt_succ_self _) h2⟩, by omega, bl.trans (hb.mono (by omega))⟩
theorem own_below {w w1 : World} {base size n : Nat} {e : TypeId} {v : Value} {xs : List Value} (h : w.ownsRow base e size v n xs) (hb : Below w.heap.size w w1) : w1.ownsRow base e size v n xs := by
  obtain ⟨hl, h0 | ⟨g, cap, cur, hv, hg, hh, h1, h2, h3, h4⟩⟩ := h
  · exact ⟨hl, .inl h0⟩
  · refine ⟨hl, .inr ⟨g, cap, cur, hv, hg, ?_, h1, h2, h3, h4⟩⟩
    have hlt : g < w.heap.size := by
      by_cases hlt : g < w.heap.size
      · exact hlt
      · rw [Array.getElem?_eq_none (Nat.le_of_not_lt hlt)] at hh; cases hh
    rw [hb.block g hlt]
    exact hh

theorem info3 : (Try.prog.info? 3).map (fun i => (i.zero, i.size, i.bytes)) = some (some (.int .i64 0), 1, 8) := by kernel_rfl

def vis (f : Nat → Bool) (k : Nat) : List Nat := (List.range k).filter f
def vals (l : List Nat) : List Value := l.map fun (i : Nat) => Value.int .i64 (Int.ofNat i)
theorem vis_succ (f : Nat → Bool) (k : Nat) : vis f (k + 1) = if f k then vis f k ++ [k] else vis f k := by
  unfold vis
  rw [List.range_succ, List.filter_append]
  cases h : f k <;> simp [h]
theorem vis_le (f : Nat → Bool) (k : Nat) : (vis f k).length ≤ k := by
  have := List.length_filter_le f (List.range k)
  simpa [vis] using this

/-- the relation of a round of 'places' -/
def PlRel (w : World) (s0 s1 s2 : Value) (f : Nat → Bool) (k : Nat) (v : Value) (wr : World) : Prop :=
  wr.ownsRow (w.heap.size + 1) 3 1 v (vis f k).length (vals (vis f k)) ∧ PB w s0 s1 s2 wr
theorem PlRel.skip {w wr w1 : World} {s0 s1 s2 v : Value} {f : Nat → Bool} {k : Nat} (h : PlRel w s0 s1 s2 f k v wr) (hb : Below wr.heap.size wr w1) (hf : f k = false) : PlRel w s0 s1 s2 f (k + 1) v w1 := by
  obtain ⟨ho, hp⟩ := h
  have e : vis f (k + 1) = vis f k := by rw [vis_succ, hf]; rfl
  rw [PlRel, e]
  exact ⟨own_below ho hb, hp.call hb⟩
theorem PlRel.put {w W w' : World} {s0 s1 s2 v v' : Value} {f : Nat → Bool} {k : Nat} (hp : PB w s0 s1 s2 W) (hrow : ∀ g, v.ownBlock = some g → w.heap.size + 1 ≤ g) (hf : f k = true)
    (ho : w'.ownsRow (w.heap.size + 1) 3 1 v' ((vis f k).length + 1) (vals (vis f k) ++ [.int .i64 (k : Int)])) (hg : W.grownBy w' v.ownBlock) : PlRel w s0 s1 s2 f (k + 1) v' w' := by
  have e : vis f (k + 1) = vis f k ++ [k] := by rw [vis_succ, hf]; rfl
  rw [PlRel, e]
  refine ⟨?_, hp.call1 ((Below.refl _ _).grown hg hp.2.1 hrow)⟩
  have e2 : vals (vis f k ++ [k]) = vals (vis f k) ++ [.int .i64 (k : Int)] := by simp [vals]
  rw [e2, List.length_append]
  exact ho

set_option maxHeartbeats 400000 in
theorem clo_v (a0 a1 a2 : Option Addr) (n0 n1 n2 c0 c1 c2 bp bw : Nat) (L C : Nat → Int) (x i : Int) (w : World) (hp : PolLabs w a0 n0 L C)
    (h0 : w.cell? ⟨bp, 0, none⟩ = some (.slice a0 n0 c0)) (h1 : w.cell? ⟨bp, 1, none⟩ = some (.slice a1 n1 c1)) (h2 : w.cell? ⟨bp, 2, none⟩ = some (.slice a2 n2 c2)) (hx : w.cell? ⟨bw, 0, none⟩ = some (.int .i64 x)) :
    Calls Try.prog 39 #[.int .i64 i, .pointer (some ⟨bp, 0, none⟩), .pointer (some ⟨bw, 0, none⟩)] w fun e w' => e = .returned (.bool (seesB n0 L C i x)) ∧ Below w.heap.size w w' := by
  go_enter Try.func39, Try.ntmps39
  go_wp2_with (go_at_call 18; refine (sees_any _ _ _ _ _ _ _ _ _ L C _ _ _ hp).mono ?_; rintro e w' ⟨rfl, hb⟩)
  go_ret
  exact ⟨rfl, hb⟩

set_option maxHeartbeats 1000000 in
theorem places_v (a0 a1 a2 : Option Addr) (n0 n1 n2 c0 c1 c2 bp bw : Nat) (L C : Nat → Int) (x : Int) (w : World) (hp : PolLabs w a0 n0 L C) (hn : n0 ≤ 200)
    (h0 : w.cell? ⟨bp, 0, none⟩ = some (.slice a0 n0 c0)) (h1 : w.cell? ⟨bp, 1, none⟩ = some (.slice a1 n1 c1)) (h2 : w.cell? ⟨bp, 2, none⟩ = some (.slice a2 n2 c2)) (hx : w.cell? ⟨bw, 0, none⟩ = some (.int .i64 x)) (l1 : bp < w.heap.size) (l2 : bw < w.heap.size) :
    Calls Try.prog 38 #[.agg #[.slice a0 n0 c0, .slice a1 n1 c1, .slice a2 n2 c2], .func (.func 39) #[] #[.pointer (some ⟨bp, 0, none⟩), .pointer (some ⟨bw, 0, none⟩)]] w fun e w' =>
      ∃ v, e = .returned v ∧ w'.ownsRow w.heap.size 3 1 v (vis (fun i => seesB n0 L C (Int.ofNat i) x) n0).length (vals (vis (fun i => seesB n0 L C (Int.ofNat i) x) n0)) ∧ Below w.heap.size w w' := by
  have hst := PB.start w (.slice a0 n0 c0) (.slice a1 n1 c1) (.slice a2 n2 c2)
  obtain ⟨i0, hi, hz0, hz1, hz2⟩ := info_parts info3
  generalize hf : (fun i => seesB n0 L C (Int.ofNat i) x) = f
  have HF : ∀ i : Nat, f i = (seesB n0 L C (i : Int) x) := fun i => by rw [← hf]; rfl
  have HF' := hide HF
  clear HF hf
  go_enter Try.func38, Try.ntmps38
  go_wp2_with fail
  go_loopw [5, 10] (fun v i wr => ∃ k : Nat, k ≤ n0 ∧ i = .int .i64 k ∧ PlRel w (.slice a0 n0 c0) (.slice a1 n1 c1) (.slice a2 n2 c2) f k v wr) (fun _ i _ => n0 - (intOf i).toNat)
  case atStart => exact ⟨0, Nat.zero_le _, rfl, World.ownsRow_nil _ _ _ _, hst⟩
  case round =>
    obtain ⟨k, hk, rfl, hR⟩ := hrel
    by_cases hlt : k < n0
    · have hB := hR.2.2.2
      go_wp2_with fail
      refine (clo_v a0 a1 a2 n0 n1 n2 c0 c1 c2 bp bw L C x (k : Int) _ (hp.call hB) (cell_keep hB l1 h0) (cell_keep hB l1 h1) (cell_keep hB l1 h2) (cell_keep hB l2 hx)).mono ?_
      rintro e w1 ⟨rfl, hb1⟩
      rw [← unhide HF' k]
      cases hfk : f k
      · go_wp2
        go_roundw
        case rel => exact ⟨k + 1, by omega, by go_num, hR.skip hb1 hfk⟩
        case measure => simp [intOf]; omega
      · have ho1 := own_below hR.1 hb1
        have hP1 := hR.2.call hb1
        have hvl := vis_le f k
        have hlen : (vis f k).length ≤ 200 := by omega
        clear hvl
        go_wp2_with (first
          | (at_builtin; refine wpList_append_own _ rfl _ _ 40 rfl (w.heap.size + 1) 3 i0 (.int .i64 0) 1 8 Try.underlying40 hi hz0 hz1 hz2 rfl (by decide) _ _ _ rfl (ho1.alloc _) ⟨w1.heap.size, 0, none⟩ 1 1 [.int .i64 (k : Int)] rfl rfl ?c1 ?c2 ?c3 ?c4 ?c5 ?_))
        case c1 =>
          intro j u hj
          match j, hj with
          | 0, hj => simp at hj; subst hj; simp [Addr.add]
        case c2 => intro u hu; simp at hu; subst hu; rfl
        case c3 => unfold maxLen; omega
        case c4 => omega
        case c5 => have := hP1.2.1; simp; omega
        · intro v' w2 hown' hgrow _
          go_wp2
          go_roundw
          case rel => exact ⟨k + 1, by omega, by go_num, PlRel.put (hP1.call ((Below.refl _ _).alloc (Nat.le_refl _) _)) (fun g hg => (hR.1.lt g hg).1) hfk hown' hgrow⟩
          case measure => simp [intOf]; omega
    · have hkn : k = n0 := by omega
      subst hkn
      go_wp2
      go_ret
      exact ⟨_, rfl, Joins.ownsRow_le hR.1 (Nat.le_succ _), hR.2.2.2⟩

set_option maxHeartbeats 400000 in
theorem clo_s (a0 a1 a2 : Option Addr) (n0 n1 n2 c0 c1 c2 bp bw : Nat) (L C : Nat → Int) (x i : Int) (w : World) (hp : PolLabs w a0 n0 L C)
    (h0 : w.cell? ⟨bp, 0, none⟩ = some (.slice a0 n0 c0)) (h1 : w.cell? ⟨bp, 1, none⟩ = some (.slice a1 n1 c1)) (h2 : w.cell? ⟨bp, 2, none⟩ = some (.slice a2 n2 c2)) (hx : w.cell? ⟨bw, 0, none⟩ = some (.int .i64 x)) :
    Calls Try.prog 40 #[.int .i64 i, .pointer (some ⟨bp, 0, none⟩), .pointer (some ⟨bw, 0, none⟩)] w fun e w' => e = .returned (.bool (seesB n0 L C x i)) ∧ Below w.heap.size w w' := by
  go_enter Try.func40, Try.ntmps40
  go_wp2_with (go_at_call 18; refine (sees_any _ _ _ _ _ _ _ _ _ L C _ _ _ hp).mono ?_; rintro e w' ⟨rfl, hb⟩)
  go_ret
  exact ⟨rfl, hb⟩

set_option maxHeartbeats 1000000 in
theorem places_s (a0 a1 a2 : Option Addr) (n0 n1 n2 c0 c1 c2 bp bw : Nat) (L C : Nat → Int) (x : Int) (w : World) (hp : PolLabs w a0 n0 L C) (hn : n0 ≤ 200)
    (h0 : w.cell? ⟨bp, 0, none⟩ = some (.slice a0 n0 c0)) (h1 : w.cell? ⟨bp, 1, none⟩ = some (.slice a1 n1 c1)) (h2 : w.cell? ⟨bp, 2, none⟩ = some (.slice a2 n2 c2)) (hx : w.cell? ⟨bw, 0, none⟩ = some (.int .i64 x)) (l1 : bp < w.heap.size) (l2 : bw < w.heap.size) :
    Calls Try.prog 38 #[.agg #[.slice a0 n0 c0, .slice a1 n1 c1, .slice a2 n2 c2], .func (.func 40) #[] #[.pointer (some ⟨bp, 0, none⟩), .pointer (some ⟨bw, 0, none⟩)]] w fun e w' =>
      ∃ v, e = .returned v ∧ w'.ownsRow w.heap.size 3 1 v (vis (fun i => seesB n0 L C x (Int.ofNat i)) n0).length (vals (vis (fun i => seesB n0 L C x (Int.ofNat i)) n0)) ∧ Below w.heap.size w w' := by
  have hst := PB.start w (.slice a0 n0 c0) (.slice a1 n1 c1) (.slice a2 n2 c2)
  obtain ⟨i0, hi, hz0, hz1, hz2⟩ := info_parts info3
  generalize hf : (fun i => seesB n0 L C x (Int.ofNat i)) = f
  have HF : ∀ i : Nat, f i = (seesB n0 L C x (i : Int)) := fun i => by rw [← hf]; rfl
  have HF' := hide HF
  clear HF hf
  go_enter Try.func38, Try.ntmps38
  go_wp2_with fail
  go_loopw [5, 10] (fun v i wr => ∃ k : Nat, k ≤ n0 ∧ i = .int .i64 k ∧ PlRel w (.slice a0 n0 c0) (.slice a1 n1 c1) (.slice a2 n2 c2) f k v wr) (fun _ i _ => n0 - (intOf i).toNat)
  case atStart => exact ⟨0, Nat.zero_le _, rfl, World.ownsRow_nil _ _ _ _, hst⟩
  case round =>
    obtain ⟨k, hk, rfl, hR⟩ := hrel
    by_cases hlt : k < n0
    · have hB := hR.2.2.2
      go_wp2_with fail
      refine (clo_s a0 a1 a2 n0 n1 n2 c0 c1 c2 bp bw L C x (k : Int) _ (hp.call hB) (cell_keep hB l1 h0) (cell_keep hB l1 h1) (cell_keep hB l1 h2) (cell_keep hB l2 hx)).mono ?_
      rintro e w1 ⟨rfl, hb1⟩
      rw [← unhide HF' k]
      cases hfk : f k
      · go_wp2
        go_roundw
        case rel => exact ⟨k + 1, by omega, by go_num, hR.skip hb1 hfk⟩
        case measure => simp [intOf]; omega
      · have ho1 := own_below hR.1 hb1
        have hP1 := hR.2.call hb1
        have hvl := vis_le f k
        have hlen : (vis f k).length ≤ 200 := by omega
        clear hvl
        go_wp2_with (first
          | (at_builtin; refine wpList_append_own _ rfl _ _ 40 rfl (w.heap.size + 1) 3 i0 (.int .i64 0) 1 8 Try.underlying40 hi hz0 hz1 hz2 rfl (by decide) _ _ _ rfl (ho1.alloc _) ⟨w1.heap.size, 0, none⟩ 1 1 [.int .i64 (k : Int)] rfl rfl ?c1 ?c2 ?c3 ?c4 ?c5 ?_))
        case c1 =>
          intro j u hj
          match j, hj with
          | 0, hj => simp at hj; subst hj; simp [Addr.add]
        case c2 => intro u hu; simp at hu; subst hu; rfl
        case c3 => unfold maxLen; omega
        case c4 => omega
        case c5 => have := hP1.2.1; simp; omega
        · intro v' w2 hown' hgrow _
          go_wp2
          go_roundw
          case rel => exact ⟨k + 1, by omega, by go_num, PlRel.put (hP1.call ((Below.refl _ _).alloc (Nat.le_refl _) _)) (fun g hg => (hR.1.lt g hg).1) hfk hown' hgrow⟩
          case measure => simp [intOf]; omega
    · have hkn : k = n0 := by omega
      subst hkn
      go_wp2
      go_ret
      exact ⟨_, rfl, Joins.ownsRow_le hR.1 (Nat.le_succ _), hR.2.2.2⟩

set_option maxHeartbeats 400000 in
theorem list_v (a0 a1 a2 : Option Addr) (n0 n1 n2 c0 c1 c2 : Nat) (L C : Nat → Int) (x : Int) (w : World) (hp : PolLabs w a0 n0 L C) (hn : n0 ≤ 200) :
    Calls Try.prog 21 #[.agg #[.slice a0 n0 c0, .slice a1 n1 c1, .slice a2 n2 c2], .int .i64 x] w fun e w' =>
      ∃ v, e = .returned v ∧ w'.ownsRow w.heap.size 3 1 v (vis (fun i => seesB n0 L C (Int.ofNat i) x) n0).length (vals (vis (fun i => seesB n0 L C (Int.ofNat i) x) n0)) ∧ Below w.heap.size w w' := by
  have hB : Below w.heap.size w ((w.alloc (.cells #[.slice a0 n0 c0, .slice a1 n1 c1, .slice a2 n2 c2] 33)).alloc (.cells #[.int .i64 x] 3)) := by go_grown
  have q0 : ((w.alloc (.cells #[.slice a0 n0 c0, .slice a1 n1 c1, .slice a2 n2 c2] 33)).alloc (.cells #[.int .i64 x] 3)).cell? ⟨w.heap.size, 0, none⟩ = some (.slice a0 n0 c0) := by simp [go_sem]
  have q1 : ((w.alloc (.cells #[.slice a0 n0 c0, .slice a1 n1 c1, .slice a2 n2 c2] 33)).alloc (.cells #[.int .i64 x] 3)).cell? ⟨w.heap.size, 1, none⟩ = some (.slice a1 n1 c1) := by simp [go_sem]
  have q2 : ((w.alloc (.cells #[.slice a0 n0 c0, .slice a1 n1 c1, .slice a2 n2 c2] 33)).alloc (.cells #[.int .i64 x] 3)).cell? ⟨w.heap.size, 2, none⟩ = some (.slice a2 n2 c2) := by simp [go_sem]
  have q3 : ((w.alloc (.cells #[.slice a0 n0 c0, .slice a1 n1 c1, .slice a2 n2 c2] 33)).alloc (.cells #[.int .i64 x] 3)).cell? ⟨w.heap.size + 1, 0, none⟩ = some (.int .i64 x) := by simp [go_sem]
  have hz : w.heap.size + 1 < ((w.alloc (.cells #[.slice a0 n0 c0, .slice a1 n1 c1, .slice a2 n2 c2] 33)).alloc (.cells #[.int .i64 x] 3)).heap.size := by simp
  go_enter Try.func21, Try.ntmps21
  go_wp2_with fail
  refine (places_v a0 a1 a2 n0 n1 n2 c0 c1 c2 w.heap.size (w.heap.size + 1) L C x _ (hp.call hB) hn q0 q1 q2 q3 (by simp; omega) (by simp)).mono ?_
  rintro e w1 ⟨v, rfl, ho, hb⟩
  go_wp2
  go_ret
  exact ⟨_, rfl, Joins.ownsRow_le ho (by simp; omega), hB.trans (hb.mono (by simp; omega))⟩

set_option maxHeartbeats 400000 in
theorem list_s (a0 a1 a2 : Option Addr) (n0 n1 n2 c0 c1 c2 : Nat) (L C : Nat → Int) (x : Int) (w : World) (hp : PolLabs w a0 n0 L C) (hn : n0 ≤ 200) :
    Calls Try.prog 23 #[.agg #[.slice a0 n0 c0, .slice a1 n1 c1, .slice a2 n2 c2], .int .i64 x] w fun e w' =>
      ∃ v, e = .returned v ∧ w'.ownsRow w.heap.size 3 1 v (vis (fun i => seesB n0 L C x (Int.ofNat i)) n0).length (vals (vis (fun i => seesB n0 L C x (Int.ofNat i)) n0)) ∧ Below w.heap.size w w' := by
  have hB : Below w.heap.size w ((w.alloc (.cells #[.slice a0 n0 c0, .slice a1 n1 c1, .slice a2 n2 c2] 33)).alloc (.cells #[.int .i64 x] 3)) := by go_grown
  have q0 : ((w.alloc (.cells #[.slice a0 n0 c0, .slice a1 n1 c1, .slice a2 n2 c2] 33)).alloc (.cells #[.int .i64 x] 3)).cell? ⟨w.heap.size, 0, none⟩ = some (.slice a0 n0 c0) := by simp [go_sem]
  have q1 : ((w.alloc (.cells #[.slice a0 n0 c0, .slice a1 n1 c1, .slice a2 n2 c2] 33)).alloc (.cells #[.int .i64 x] 3)).cell? ⟨w.heap.size, 1, none⟩ = some (.slice a1 n1 c1) := by simp [go_sem]
  have q2 : ((w.alloc (.cells #[.slice a0 n0 c0, .slice a1 n1 c1, .slice a2 n2 c2] 33)).alloc (.cells #[.int .i64 x] 3)).cell? ⟨w.heap.size, 2, none⟩ = some (.slice a2 n2 c2) := by simp [go_sem]
  have q3 : ((w.alloc (.cells #[.slice a0 n0 c0, .slice a1 n1 c1, .slice a2 n2 c2] 33)).alloc (.cells #[.int .i64 x] 3)).cell? ⟨w.heap.size + 1, 0, none⟩ = some (.int .i64 x) := by simp [go_sem]
  have hz : w.heap.size + 1 < ((w.alloc (.cells #[.slice a0 n0 c0, .slice a1 n1 c1, .slice a2 n2 c2] 33)).alloc (.cells #[.int .i64 x] 3)).heap.size := by simp
  go_enter Try.func23, Try.ntmps23
  go_wp2_with fail
  refine (places_s a0 a1 a2 n0 n1 n2 c0 c1 c2 w.heap.size (w.heap.size + 1) L C x _ (hp.call hB) hn q0 q1 q2 q3 (by simp; omega) (by simp)).mono ?_
  rintro e w1 ⟨v, rfl, ho, hb⟩
  go_wp2
  go_ret
  exact ⟨_, rfl, Joins.ownsRow_le ho (by simp; omega), hB.trans (hb.mono (by simp; omega))⟩

end Go.Proofs.Ytbahnkomdndmkaa
