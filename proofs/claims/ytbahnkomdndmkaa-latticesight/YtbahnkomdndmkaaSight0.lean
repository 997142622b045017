/- Sight by the document's own words. -/
import Derived.Test.YtbahnkomdndmkaaPlacesA
import Derived.Test.YtbahnkomdndmkaaRight
namespace Go.Proofs.Ytbahnkomdndmkaa
set_option linter.unusedVariables false
set_option linter.unusedSimpArgs false
open Go.ChangeShapes Go.WideShapes Go.ChangeAt Go.RowKit

theorem refbelow_int (la ca lb cb : Int) (w : World) (ha : U32 ca) (hb : U32 cb) :
    Calls Try.prog 11 #[.agg #[.int .i64 la, .int .u32 ca], .agg #[.int .i64 lb, .int .u32 cb]] w fun e w' => e = .returned (.bool (belowB la ca lb cb)) ∧ Below w.heap.size w w' := by
  obtain ⟨a, rfl⟩ := Int.eq_ofNat_of_zero_le ha.1
  obtain ⟨b, rfl⟩ := Int.eq_ofNat_of_zero_le hb.1
  have h1 := ha.2
  have h2 := hb.2
  exact refbelow_any la lb a b w (by omega) (by omega)

set_option maxHeartbeats 1000000 in
theorem refsees_any (a0 a1 a2 : Option Addr) (n0 n1 n2 c0 c1 c2 : Nat) (L C : Nat → Int) (v u : Int) (w : World) (hp : PolLabs w a0 n0 L C) :
    Calls Try.prog 19 #[.agg #[.slice a0 n0 c0, .slice a1 n1 c1, .slice a2 n2 c2], .int .i64 v, .int .i64 u] w fun e w' => e = .returned (.bool (seesB n0 L C v u)) ∧ Below w.heap.size w w' := by
  have hst := PB.start w (.slice a0 n0 c0) (.slice a1 n1 c1) (.slice a2 n2 c2)
  by_cases h1 : v < 0
  · have hr : seesB n0 L C v u = false := by
      have : placeB v n0 = false := by simp [placeB]; omega
      simp [seesB, this]
    go_enter Try.func19, Try.ntmps19
    go_wp2
    go_ret
    exact ⟨by first | rfl | (rw [hr]; rfl), by go_grown⟩
  · have h1' : decide (v < 0) = false := by simpa using h1
    by_cases h2 : u < 0
    · have hr : seesB n0 L C v u = false := by
        have : placeB u n0 = false := by simp [placeB]; omega
        simp [seesB, this]
      go_enter Try.func19, Try.ntmps19
      go_wp2
      go_ret
      exact ⟨by first | rfl | (rw [hr]; rfl), by go_grown⟩
    · have h2' : decide (u < 0) = false := by simpa using h2
      by_cases h3 : (n0 : Int) ≤ v
      · have hr : seesB n0 L C v u = false := by
          have : placeB v n0 = false := by simp [placeB]; omega
          simp [seesB, this]
        go_enter Try.func19, Try.ntmps19
        go_wp2
        go_ret
        exact ⟨by first | rfl | (rw [hr]; rfl), by go_grown⟩
      · have h3' : decide ((n0 : Int) ≤ v) = false := by simpa using h3
        by_cases h4 : (n0 : Int) ≤ u
        · have hr : seesB n0 L C v u = false := by
            have : placeB u n0 = false := by simp [placeB]; omega
            simp [seesB, this]
          go_enter Try.func19, Try.ntmps19
          go_wp2
          go_ret
          exact ⟨by first | rfl | (rw [hr]; rfl), by go_grown⟩
        · have h4' : decide ((n0 : Int) ≤ u) = false := by simpa using h4
          obtain ⟨i, rfl⟩ := Int.eq_ofNat_of_zero_le (by omega : 0 ≤ v)
          obtain ⟨j, rfl⟩ := Int.eq_ofNat_of_zero_le (by omega : 0 ≤ u)
          have hr : seesB n0 L C (i : Int) (j : Int) = belowB (L j) (C j) (L i) (C i) := by
            have p1 : placeB (i : Int) n0 = true := by simp [placeB]; omega
            have p2 : placeB (j : Int) n0 = true := by simp [placeB]; omega
            simp [seesB, p1, p2]
          have hi : i < n0 := by omega
          have hj : j < n0 := by omega
          have ui := hp.2.1 i hi
          have uj := hp.2.1 j hj
          rcases hp.2.2 with h0 | ⟨b, off, rfl, hlt, hrow⟩
          · omega
          have ei := hrow i hi
          have ej := hrow j hj
          have gi : (i : Int) < (n0 : Int) := by omega
          have gj : (j : Int) < (n0 : Int) := by omega
          have g0 : (0 : Int) ≤ (i : Int) := by omega
          have g1 : (0 : Int) ≤ (j : Int) := by omega
          have HR := hide hr
          clear hr
          go_enter Try.func19, Try.ntmps19
          go_wp2_with fail
          generalize w.alloc (Obj.cells #[.slice (some ⟨b, off, none⟩) n0 c0, .slice a1 n1 c1, .slice a2 n2 c2] 33) = W0 at *
          have hst2 : SB w (.slice (some ⟨b, off, none⟩) n0 c0) (.slice a1 n1 c1) (.slice a2 n2 c2) b off i j (L i) (C i) (L j) (C j) W0 := SB.start hst hlt ei ej
          have hst' := hst2
          unfold SB PB at hst'
          go_region_held3 (fun w' => ((w'.cell? ⟨b, off + i * 2, none⟩ = some (.int .i64 (L i)) ∧ w'.cell? ⟨b, off + i * 2 + 1, none⟩ = some (.int .u32 (C i)) ∧ w'.cell? ⟨b, off + j * 2, none⟩ = some (.int .i64 (L j)) ∧ w'.cell? ⟨b, off + j * 2 + 1, none⟩ = some (.int .u32 (C j))) ∧ b < w.heap.size) ∧ ((w'.cell? ⟨w.heap.size, 0, none⟩ = some (.slice (some ⟨b, off, none⟩) n0 c0) ∧ w'.cell? ⟨w.heap.size, 1, none⟩ = some (.slice a1 n1 c1) ∧ w'.cell? ⟨w.heap.size, 2, none⟩ = some (.slice a2 n2 c2)) ∧ w.heap.size < w'.heap.size ∧ Below w.heap.size w w'))
            (first | exact SB.drew (by assumption) | exact SB.call (by assumption) (by assumption))
            (first
              | (go_at_call 11; refine (refbelow_int _ _ _ _ _ uj ui).mono ?_; rintro e w' ⟨rfl, hb⟩))
          all_goals go_wp2
          all_goals go_ret
          all_goals
            have hS : SB w (.slice (some ⟨b, off, none⟩) n0 c0) (.slice a1 n1 c1) (.slice a2 n2 c2) b off i j (L i) (C i) (L j) (C j) w' := by assumption
            exact ⟨by rw [unhide HR]; rfl, hS.2.2.2⟩

set_option maxHeartbeats 1000000 in
theorem ref_v (a0 a1 a2 : Option Addr) (n0 n1 n2 c0 c1 c2 : Nat) (L C : Nat → Int) (x : Int) (w : World) (hp : PolLabs w a0 n0 L C) (hn : n0 ≤ 200) :
    Calls Try.prog 22 #[.agg #[.slice a0 n0 c0, .slice a1 n1 c1, .slice a2 n2 c2], .int .i64 x] w fun e w' =>
      ∃ v, e = .returned v ∧ w'.ownsRow w.heap.size 3 1 v (vis (fun i => seesB n0 L C (Int.ofNat i) x) n0).length (vals (vis (fun i => seesB n0 L C (Int.ofNat i) x) n0)) ∧ Below w.heap.size w w' := by
  have hst := PB.start w (.slice a0 n0 c0) (.slice a1 n1 c1) (.slice a2 n2 c2)
  obtain ⟨i0, hi, hz0, hz1, hz2⟩ := info_parts info3
  generalize hf : (fun i => seesB n0 L C (Int.ofNat i) x) = f
  have HF : ∀ i : Nat, f i = (seesB n0 L C (i : Int) x) := fun i => by rw [← hf]; rfl
  have HF' := hide HF
  clear HF hf
  go_enter Try.func22, Try.ntmps22
  go_wp2_with fail
  go_loopw [5, 10] (fun v i wr => ∃ k : Nat, k ≤ n0 ∧ i = .int .i64 k ∧ PlRel w (.slice a0 n0 c0) (.slice a1 n1 c1) (.slice a2 n2 c2) f k v wr) (fun _ i _ => n0 - (intOf i).toNat)
  case atStart => exact ⟨0, Nat.zero_le _, rfl, World.ownsRow_nil _ _ _ _, hst⟩
  case round =>
    obtain ⟨k, hk, rfl, hR⟩ := hrel
    by_cases hlt : k < n0
    · have hB := hR.2.2.2
      have hF := hR.2.1
      go_wp2_with fail
      refine (refsees_any _ _ _ _ _ _ _ _ _ L C (k : Int) x _ (hp.call hB)).mono ?_
      rintro e w1 ⟨rfl, hb1⟩
      rw [← unhide HF' k]
      cases hfk : f k
      · go_wp2
        go_roundw
        case rel => exact ⟨k + 1, by omega, by go_num, hR.skip hb1 hfk⟩
        case measure => simp [intOf]; omega
      · have ho1 := own_below hR.1 hb1
        have hP1 := hR.2.call hb1
        have hvl := vis_le f k
        have hlen : (vis f k).length ≤ 200 := by omega
        clear hvl
        go_wp2_with (first
          | (at_builtin; refine wpList_append_own _ rfl _ _ 40 rfl (w.heap.size + 1) 3 i0 (.int .i64 0) 1 8 Try.underlying40 hi hz0 hz1 hz2 rfl (by decide) _ _ _ rfl (ho1.alloc _) ⟨w1.heap.size, 0, none⟩ 1 1 [.int .i64 (k : Int)] rfl rfl ?c1 ?c2 ?c3 ?c4 ?c5 ?_))
        case c1 =>
          intro j u hj
          match j, hj with
          | 0, hj => simp at hj; subst hj; simp [Addr.add]
        case c2 => intro u hu; simp at hu; subst hu; rfl
        case c3 => unfold maxLen; omega
        case c4 => omega
        case c5 => have := hP1.2.1; simp; omega
        · intro v' w2 hown' hgrow _
          go_wp2
          go_roundw
          case rel => exact ⟨k + 1, by omega, by go_num, PlRel.put (hP1.call ((Below.refl _ _).alloc (Nat.le_refl _) _)) (fun g hg => (hR.1.lt g hg).1) hfk hown' hgrow⟩
          case measure => simp [intOf]; omega
    · have hkn : k = n0 := by omega
      subst hkn
      go_wp2
      go_ret
      exact ⟨_, rfl, Joins.ownsRow_le hR.1 (Nat.le_succ _), hR.2.2.2⟩

set_option maxHeartbeats 1000000 in
theorem ref_s (a0 a1 a2 : Option Addr) (n0 n1 n2 c0 c1 c2 : Nat) (L C : Nat → Int) (x : Int) (w : World) (hp : PolLabs w a0 n0 L C) (hn : n0 ≤ 200) :
    Calls Try.prog 24 #[.agg #[.slice a0 n0 c0, .slice a1 n1 c1, .slice a2 n2 c2], .int .i64 x] w fun e w' =>
      ∃ v, e = .returned v ∧ w'.ownsRow w.heap.size 3 1 v (vis (fun i => seesB n0 L C x (Int.ofNat i)) n0).length (vals (vis (fun i => seesB n0 L C x (Int.ofNat i)) n0)) ∧ Below w.heap.size w w' := by
  have hst := PB.start w (.slice a0 n0 c0) (.slice a1 n1 c1) (.slice a2 n2 c2)
  obtain ⟨i0, hi, hz0, hz1, hz2⟩ := info_parts info3
  generalize hf : (fun i => seesB n0 L C x (Int.ofNat i)) = f
  have HF : ∀ i : Nat, f i = (seesB n0 L C x (i : Int)) := fun i => by rw [← hf]; rfl
  have HF' := hide HF
  clear HF hf
  go_enter Try.func24, Try.ntmps24
  go_wp2_with fail
  go_loopw [5, 10] (fun v i wr => ∃ k : Nat, k ≤ n0 ∧ i = .int .i64 k ∧ PlRel w (.slice a0 n0 c0) (.slice a1 n1 c1) (.slice a2 n2 c2) f k v wr) (fun _ i _ => n0 - (intOf i).toNat)
  case atStart => exact ⟨0, Nat.zero_le _, rfl, World.ownsRow_nil _ _ _ _, hst⟩
  case round =>
    obtain ⟨k, hk, rfl, hR⟩ := hrel
    by_cases hlt : k < n0
    · have hB := hR.2.2.2
      have hF := hR.2.1
      go_wp2_with fail
      refine (refsees_any _ _ _ _ _ _ _ _ _ L C x (k : Int) _ (hp.call hB)).mono ?_
      rintro e w1 ⟨rfl, hb1⟩
      rw [← unhide HF' k]
      cases hfk : f k
      · go_wp2
        go_roundw
        case rel => exact ⟨k + 1, by omega, by go_num, hR.skip hb1 hfk⟩
        case measure => simp [intOf]; omega
      · have ho1 := own_below hR.1 hb1
        have hP1 := hR.2.call hb1
        have hvl := vis_le f k
        have hlen : (vis f k).length ≤ 200 := by omega
        clear hvl
        go_wp2_with (first
          | (at_builtin; refine wpList_append_own _ rfl _ _ 40 rfl (w.heap.size + 1) 3 i0 (.int .i64 0) 1 8 Try.underlying40 hi hz0 hz1 hz2 rfl (by decide) _ _ _ rfl (ho1.alloc _) ⟨w1.heap.size, 0, none⟩ 1 1 [.int .i64 (k : Int)] rfl rfl ?c1 ?c2 ?c3 ?c4 ?c5 ?_))
        case c1 =>
          intro j u hj
          match j, hj with
          | 0, hj => simp at hj; subst hj; simp [Addr.add]
        case c2 => intro u hu; simp at hu; subst hu; rfl
        case c3 => unfold maxLen; omega
        case c4 => omega
        case c5 => have := hP1.2.1; simp; omega
        · intro v' w2 hown' hgrow _
          go_wp2
          go_roundw
          case rel => exact ⟨k + 1, by omega, by go_num, PlRel.put (hP1.call ((Below.refl _ _).alloc (Nat.le_refl _) _)) (fun g hg => (hR.1.lt g hg).1) hfk hown' hgrow⟩
          case measure => simp [intOf]; omega
    · have hkn : k = n0 := by omega
      subst hkn
      go_wp2
      go_ret
      exact ⟨_, rfl, Joins.ownsRow_le hR.1 (Nat.le_succ _), hR.2.2.2⟩

/-- two rows of the same numbers are equal -/
theorem equal_rows (v1 v2 : Value) (b1 b2 : Nat) (l : List Nat) (w : World) (hl : l.length ≤ 200) (h1 : w.ownsRow b1 3 1 v1 l.length (vals l)) (h2 : w.ownsRow b2 3 1 v2 l.length (vals l)) :
    Calls Try.prog 20 #[v1, v2] w fun e w' => e = .returned (.bool true) ∧ Below w.heap.size w w' := by
  have hc : ∀ (v : Value) (b : Nat), w.ownsRow b 3 1 v l.length (vals l) → (v = .slice none 0 0 ∧ l.length = 0) ∨ ∃ g cap, v = .slice (some ⟨g, 0, none⟩) l.length cap ∧ ∀ (j y : Nat), l[j]? = some y → w.cell? ⟨g, j, none⟩ = some (.int .i64 (y : Int)) := by
    intro v b ho
    rcases Joins.ownsRow_forms ho with h | ⟨g, cap, rfl⟩
    · exact .inl h
    · refine .inr ⟨g, cap, rfl, fun j y hj => ?_⟩
      have := ho.cells rfl j (.int .i64 (y : Int)) (by rw [vals, List.getElem?_map, hj]; rfl)
      rw [add_plain, Nat.zero_add] at this
      exact this
  have hh1 := hc _ _ h1
  have hh2 := hc _ _ h2
  clear hc h1 h2
  have hlen : ∃ n, l.length = n := ⟨_, rfl⟩
  obtain ⟨n, hn⟩ := hlen
  rw [hn] at hh1 hh2 hl
  have HN := hide hn
  clear hn
  have hne : ((n : Int) != (n : Int)) = false := by simp
  have hz0 : ((0 : Int) != (0 : Int)) = false := by simp
  rcases hh1 with ⟨rfl, h0⟩ | ⟨g1, cap1, rfl, q1⟩
  · subst h0
    rcases hh2 with ⟨rfl, _⟩ | ⟨g2, cap2, rfl, q2⟩
    · go_enter Try.func20, Try.ntmps20
      go_wp2_with fail
      go_rounds 1
      go_ret
      exact ⟨rfl, Below.refl _ _⟩
    · clear q2
      go_enter Try.func20, Try.ntmps20
      go_wp2_with fail
      go_rounds 1
      go_ret
      exact ⟨rfl, Below.refl _ _⟩
  · rcases hh2 with ⟨rfl, h0⟩ | ⟨g2, cap2, rfl, q2⟩
    · subst h0
      clear q1
      go_enter Try.func20, Try.ntmps20
      go_wp2_with fail
      go_rounds 1
      go_ret
      exact ⟨rfl, Below.refl _ _⟩
    · have Q1 := hide q1
      have Q2 := hide q2
      clear q1 q2
      go_enter Try.func20, Try.ntmps20
      go_wp2_with fail
      go_loopw [13] (fun i wr => ∃ k : Nat, k ≤ n ∧ i = .int .i64 k ∧ ∃ d, wr = w.drewN d) (fun i _ => n - (intOf i).toNat)
      case atStart => exact ⟨0, Nat.zero_le _, rfl, 0, rfl⟩
      case round =>
        obtain ⟨k, hk, rfl, d, rfl⟩ := hrel
        by_cases hlt : k < n
        · have hk' : k < l.length := by rw [unhide HN]; exact hlt
          obtain ⟨y, hy⟩ : ∃ y, l[k]? = some y := ⟨_, List.getElem?_eq_getElem hk'⟩
          have e1 := unhide Q1 k y hy
          have e2 := unhide Q2 k y hy
          have g0 : (0 : Int) ≤ (k : Int) := by omega
          have g1 : (k : Int) < (n : Int) := by omega
          clear hy hk'
          go_wp2_with fail
          go_quiet (fail)
          go_wp2
          go_roundw
          case rel => exact ⟨k + 1, by omega, by go_num, d + nq, by simp [World.drewN, Nat.add_assoc]⟩
          case measure => simp [intOf]; omega
        · go_wp2
          go_ret
          exact ⟨rfl, Joins.below_draws _ _ d⟩
end Go.Proofs.Ytbahnkomdndmkaa
