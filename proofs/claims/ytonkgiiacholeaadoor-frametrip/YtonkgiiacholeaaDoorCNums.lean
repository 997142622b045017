/- Numbers of either sign, as they are put, here and by the reference. -/
import Derived.Test.YtonkgiiacholeaaDoorCOct
import Derived.ChangeSlices
import Derived.Lib.SmallJoins
import Derived.Lib.LaidTab
import Derived.Lib.LaidU8
import Derived.Deep.DeepHandedRow
import Derived.ChangeOld
import Derived.Laws.OwnMore
namespace Go.Proofs.YtonkgiiacholeaaDoor
set_option linter.unusedVariables false
set_option linter.unusedSimpArgs false
open Go.ChangeShapes Go.WideShapes Go.ChangeAt Go.RowKit Go.Joins

/-- eight digits in block g, of which the last q are those of a number -/
def Dig (w : World) (g U q : Nat) : Prop :=
  ∃ ds : Array Value, w.heap[g]? = some (.cells ds 83 (0, 0)) ∧ ds.size = 8 ∧ ∀ j, j < 8 → ∃ z : Int, ds[j]? = some (.int .u8 z) ∧ (8 - q ≤ j → z = (byteK U j : Nat))
theorem Dig.start (w : World) (U : Nat) : Dig (w.alloc (.cells #[.int .u8 0, .int .u8 0, .int .u8 0, .int .u8 0, .int .u8 0, .int .u8 0, .int .u8 0, .int .u8 0] 83)) w.heap.size U 0 := by
  refine ⟨_, heap_alloc_new w _, rfl, fun j hj => ?_⟩
  refine ⟨0, ?_, fun h => by omega⟩
  match j, hj with
  | 0, _ => rfl
  | 1, _ => rfl
  | 2, _ => rfl
  | 3, _ => rfl
  | 4, _ => rfl
  | 5, _ => rfl
  | 6, _ => rfl
  | 7, _ => rfl
theorem Dig.ne {w : World} {g U q base n : Nat} {v : Value} {xs : List Value} (h : Dig w g U q) (ho : w.ownsRow base 5 1 v n xs) : some g ≠ v.ownBlock := by
  obtain ⟨ds, hg, _⟩ := h
  rcases ho.2 with ⟨rfl, _⟩ | ⟨g', cap, cur, rfl, _, hh, _⟩
  · intro e; cases e
  · intro e
    simp [Value.ownBlock] at e
    subst e
    rw [hg] at hh
    cases hh
theorem Dig.lt {w : World} {g U q : Nat} (h : Dig w g U q) : g < w.heap.size := by
  obtain ⟨ds, hg, _⟩ := h
  by_cases hlt : g < w.heap.size
  · exact hlt
  · rw [Array.getElem?_eq_none (Nat.le_of_not_lt hlt)] at hg; cases hg
theorem Dig.grown {w w' : World} {g U q : Nat} {row : Option Nat} (h : Dig w g U q) (hg : w.grownBy w' row) (hne : some g ≠ row) : Dig w' g U q := by
  have hl := h.lt
  obtain ⟨ds, h1, h2, h3⟩ := h
  exact ⟨ds, (hg.block g hl hne).trans h1, h2, h3⟩
theorem Dig.alloc {w : World} {g U q : Nat} (h : Dig w g U q) (o : Obj) : Dig (w.alloc o) g U q := by
  have hl := h.lt
  obtain ⟨ds, h1, h2, h3⟩ := h
  exact ⟨ds, (heap_alloc_old w o hl).trans h1, h2, h3⟩
theorem Dig.cell {w : World} {g U q j : Nat} (h : Dig w g U q) (hj : j < 8) : (∃ z : Int, w.cell? ⟨g, j, none⟩ = some (.int .u8 z) ∧ (8 - q ≤ j → z = (byteK U j : Nat))) ∧ w.frozen? ⟨g, j, none⟩ = false := by
  obtain ⟨ds, h1, h2, h3⟩ := h
  obtain ⟨z, hz, h4⟩ := h3 j hj
  exact ⟨⟨z, (cell_of_row w g j ds 83 (0, 0) h1).trans hz, h4⟩, frozen_of_row w g j ds 83 h1⟩
theorem Dig.put {w : World} {g U q p : Nat} (h : Dig w g U q) (hq : q < 8) (hp : p + q = 7) : Dig (w.setCell ⟨g, p, none⟩ (.int .u8 (byteK U p : Nat))) g U (q + 1) := by
  obtain ⟨ds, h1, h2, h3⟩ := h
  refine ⟨ds.setIfInBounds p (.int .u8 (byteK U p : Nat)), heap_setCell_same w g p ds 83 _ h1, by simpa using h2, fun j hj => ?_⟩
  by_cases hjp : j = p
  · subst hjp
    exact ⟨_, by rw [Array.getElem?_setIfInBounds_self_of_lt (by omega)], fun _ => rfl⟩
  · obtain ⟨z, hz, h4⟩ := h3 j hj
    exact ⟨z, by rw [Array.getElem?_setIfInBounds_ne (Ne.symm hjp)]; exact hz, fun hh => h4 (by omega)⟩
theorem dig_k (U p q : Nat) (hp : p + q = 7) : U / 256 ^ q % 256 = byteK U p := by
  unfold byteK
  rw [show 56 - 8 * p = 8 * q by omega, Nat.pow_mul]
theorem dig_next (U q : Nat) : U / 256 ^ q / 256 = U / 256 ^ (q + 1) := by
  rw [Nat.div_div_eq_div_mul, ← Nat.pow_succ]

theorem set_grown (w : World) (g p : Nat) (u : Value) : w.grownBy (w.setCell ⟨g, p, none⟩ u) (some g) :=
  ⟨rfl, rfl, rfl, by simp, fun k _ hk => heap_setCell_other w ⟨g, p, none⟩ k u (fun e => hk (by simp [e]))⟩
theorem num8_get (U q : Nat) (hq : q < 8) : (num8 U).take (q + 1) = (num8 U).take q ++ [byteK U q] := num8_take U q hq

/-- numbers in a slice -/
def Ints (w : World) (la : Option Addr) (n : Nat) (N : Nat → Int) : Prop :=
  n = 0 ∨ ∃ b off, la = some ⟨b, off, none⟩ ∧ b < w.heap.size ∧ ∀ i, i < n → w.cell? ⟨b, off + i, none⟩ = some (.int .i64 (N i))
theorem Ints.call {w w1 : World} {la : Option Addr} {n : Nat} {N : Nat → Int} (h : Ints w la n N) (hb : Below w.heap.size w w1) : Ints w1 la n N := by
  rcases h with h | ⟨b, off, h1, h2, h3⟩
  · exact .inl h
  · exact .inr ⟨b, off, h1, Nat.lt_of_lt_of_le h2 hb.size, fun i hi => cell_keep hb h2 (h3 i hi)⟩

set_option maxRecDepth 100000 in
set_option maxHeartbeats 1000000 in
theorem appnum_max (base : Nat) (v : Value) (l : List Nat) (n : Int) (u : Nat) (w : World) (hmx : max n 0 = (u : Int)) (ho : w.ownsRow base 5 1 v l.length (bv l)) (hbase : base ≤ w.heap.size) (hl : l.length ≤ 1000000000) (hu : u ≤ 9223372036854775807) :
    Calls Tryd.prog 71 #[v, .int .i64 n] w fun e w' => ∃ v', e = .returned v' ∧ w'.ownsRow base 5 1 v' (l ++ num8 u).length (bv (l ++ num8 u)) ∧ Below base w w' := by
  obtain ⟨i0, hi, hz0, hz1, hz2⟩ := info_parts info5
  go_enter Tryd.func71, Tryd.ntmps71
  go_wp2_with fail
  go_loopw [0, 6] (fun v s wr => ∃ k : Nat, k ≤ 8 ∧ s = .int .i64 (56 - 8 * (k : Int)) ∧ wr.ownsRow base 5 1 v (l ++ (num8 u).take k).length (bv (l ++ (num8 u).take k)) ∧ Below base w wr) (fun _ s _ => (intOf s + 8).toNat)
  case atStart => exact ⟨0, by omega, rfl, by simpa using ho, Below.refl _ _⟩
  case round =>
    obtain ⟨k, hk, rfl, hown, bel⟩ := hrel
    have hlen : (l ++ (num8 u).take k).length ≤ 1000000010 := by
      rw [List.length_append, List.length_take, num8_len]
      omega
    by_cases hlt : k < 8
    · have hge : (0 : Int) ≤ 56 - 8 * (k : Int) := by omega
      go_wp2_with (at_builtin; refine wpList_append_own _ rfl _ _ 22 rfl base 5 i0 (.int .u8 0) 1 1 Tryd.underlying22 hi hz0 hz1 hz2 rfl (by decide) _ _ _ rfl (hown.alloc _) ⟨wr.heap.size, 0, none⟩ 1 1 [.int .u8 ((u : Int) / 2 ^ (56 - 8 * k) % 256)] rfl rfl ?c1 ?c2 ?c3 ?c4 ?c5 ?_)
      case c1 =>
        intro j x hj
        match j, hj with
        | 0, hj => simp at hj; subst hj; simp [Addr.add]
      case c2 => intro x hx; simp at hx; subst hx; rfl
      case c3 => unfold maxLen; omega
      case c4 => omega
      case c5 => have := bel.size; simp; omega
      intro v' w1 hown' hgrow _
      have hb1 : Below base w w1 := (bel.alloc (by have := bel.size; omega) _).grown hgrow (by have := bel.size; simp; omega) (fun g hg => (hown.lt g hg).1)
      go_wp2
      go_roundw
      case rel =>
        refine ⟨k + 1, by omega, by go_num, ?_, hb1⟩
        have e1 : l ++ (num8 u).take (k + 1) = (l ++ (num8 u).take k) ++ [byteK u k] := by rw [num8_take u k hlt, List.append_assoc]
        have e2 : bv [byteK u k] = [.int .u8 ((u : Int) / 2 ^ (56 - 8 * k) % 256)] := by simp [bv, byteK]
        rw [e1, bv_append, List.length_append, e2]
        simp only [List.length_append, List.length_take, List.length_cons, List.length_nil] at hown' ⊢
        exact hown'
      case measure => simp [intOf]; omega
    · have hk8 : k = 8 := by omega
      subst hk8
      have hlt0 : ¬ (0 : Int) ≤ 56 - 8 * ((8 : Nat) : Int) := by omega
      have e1 : (num8 u).take 8 = num8 u := List.take_of_length_le (by rw [num8_len]; omega)
      rw [e1] at hown
      clear e1
      go_wp2
      go_ret
      rw [List.length_append] at hown
      exact ⟨_, rfl, hown, bel⟩


set_option maxRecDepth 100000 in
set_option maxHeartbeats 1000000 in
theorem putm_any (v : Value) (l : List Nat) (la : Option Addr) (n cap : Nat) (N : Nat → Int) (w : World) (hv : Byt w v l) (hl : l.length ≤ 100000000) (hn : n ≤ 1000) (hI : Ints w la n N)
    (hN : ∀ i, i < n → N i ≤ 9223372036854775807) :
    Calls Tryd.prog 43 #[v, .slice la n cap] w fun e w' => ∃ v', e = .returned v' ∧ w'.ownsRow w.heap.size 5 1 v' (putN l N n).length (bv (putN l N n)) ∧ Below w.heap.size w w' := by
  have HNN := hide hN
  clear hN
  go_enter Tryd.func43, Tryd.ntmps43
  go_wp2_with fail
  have hc8 : (8 * (n : Int)) = ((8 * n : Nat) : Int) := by omega
  rw [hc8]
  refine (roomy_any v l (8 * n) _ hv (by omega) (by omega)).mono ?_
  rintro e w1 ⟨v1, rfl, ho1, hb1⟩
  clear hc8
  go_wp2_with fail
  go_loopw [5, 15] (fun v i wr => ∃ k : Nat, k ≤ n ∧ i = .int .i64 k ∧ wr.ownsRow w.heap.size 5 1 v (putN l N k).length (bv (putN l N k)) ∧ Below w.heap.size w wr) (fun _ i _ => n - (intOf i).toNat)
  case atStart => exact ⟨0, by omega, rfl, ho1, hb1⟩
  case round =>
    obtain ⟨k, hk, rfl, hown, bel⟩ := hrel
    by_cases hlt : k < n
    · rcases hI with h | ⟨b, off, rfl, hb, hcs⟩
      · omega
      have hc := cell_keep bel hb (hcs k hlt)
      have hN0 := unhide HNN k hlt
      have g1 : (0 : Int) ≤ (k : Int) := by omega
      have g2 : (k : Int) < (n : Int) := by omega
      have hlen := putN_len l N k
      have HLn := hide hlen
      clear hlen
      go_wp2_with fail
      refine (appnum_max w.heap.size _ _ (N k) (N k).toNat _ (by omega) hown bel.size (by rw [unhide HLn]; omega) (by omega)).mono ?_
      rintro e w2 ⟨v2, rfl, ho2, hb2⟩
      go_wp2
      go_roundw
      case rel => exact ⟨k + 1, by omega, by go_num, ho2, bel.trans hb2⟩
      case measure => simp [intOf]; omega
    · have hkn : k = n := by omega
      subst hkn
      go_wp2
      go_ret
      exact ⟨_, rfl, hown, bel⟩

end Go.Proofs.YtonkgiiacholeaaDoor
