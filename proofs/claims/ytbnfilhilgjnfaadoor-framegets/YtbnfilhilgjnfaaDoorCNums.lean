/- Numbers of either sign, as they are put, here and by the reference. -/
import Derived.Test.YtbnfilhilgjnfaaDoorCOct
import Derived.ChangeSlices
import Derived.Lib.SmallJoins
import Derived.Lib.LaidTab
import Derived.Lib.LaidU8
import Derived.Deep.DeepHandedRow
import Derived.ChangeOld
import Derived.Laws.OwnMore
namespace Go.Proofs.YtbnfilhilgjnfaaDoor
set_option linter.unusedVariables false
set_option linter.unusedSimpArgs false
open Go.ChangeShapes Go.WideShapes Go.ChangeAt Go.RowKit Go.Joins

/-- eight digits in block g, of which the last q are those of a number -/
def Dig (w : World) (g U q : Nat) : Prop :=
  ∃ ds : Array Value, w.heap[g]? = some (.cells ds 80 (0, 0)) ∧ ds.size = 8 ∧ ∀ j, j < 8 → ∃ z : Int, ds[j]? = some (.int .u8 z) ∧ (8 - q ≤ j → z = (byteK U j : Nat))
theorem Dig.start (w : World) (U : Nat) : Dig (w.alloc (.cells #[.int .u8 0, .int .u8 0, .int .u8 0, .int .u8 0, .int .u8 0, .int .u8 0, .int .u8 0, .int .u8 0] 80)) w.heap.size U 0 := by
  refine ⟨_, heap_alloc_new w _, rfl, fun j hj => ?_⟩
  refine ⟨0, ?_, fun h => by omega⟩
  match j, hj with
  | 0, _ => rfl
  | 1, _ => rfl
  | 2, _ => rfl
  | 3, _ => rfl
  | 4, _ => rfl
  | 5, _ => rfl
  | 6, _ => rfl
  | 7, _ => rfl
theorem Dig.ne {w : World} {g U q base n : Nat} {v : Value} {xs : List Value} (h : Dig w g U q) (ho : w.ownsRow base 5 1 v n xs) : some g ≠ v.ownBlock := by
  obtain ⟨ds, hg, _⟩ := h
  rcases ho.2 with ⟨rfl, _⟩ | ⟨g', cap, cur, rfl, _, hh, _⟩
  · intro e; cases e
  · intro e
    simp [Value.ownBlock] at e
    subst e
    rw [hg] at hh
    cases hh
theorem Dig.lt {w : World} {g U q : Nat} (h : Dig w g U q) : g < w.heap.size := by
  obtain ⟨ds, hg, _⟩ := h
  by_cases hlt : g < w.heap.size
  · exact hlt
  · rw [Array.getElem?_eq_none (Nat.le_of_not_lt hlt)] at hg; cases hg
theorem Dig.grown {w w' : World} {g U q : Nat} {row : Option Nat} (h : Dig w g U q) (hg : w.grownBy w' row) (hne : some g ≠ row) : Dig w' g U q := by
  have hl := h.lt
  obtain ⟨ds, h1, h2, h3⟩ := h
  exact ⟨ds, (hg.block g hl hne).trans h1, h2, h3⟩
theorem Dig.alloc {w : World} {g U q : Nat} (h : Dig w g U q) (o : Obj) : Dig (w.alloc o) g U q := by
  have hl := h.lt
  obtain ⟨ds, h1, h2, h3⟩ := h
  exact ⟨ds, (heap_alloc_old w o hl).trans h1, h2, h3⟩
theorem Dig.cell {w : World} {g U q j : Nat} (h : Dig w g U q) (hj : j < 8) : (∃ z : Int, w.cell? ⟨g, j, none⟩ = some (.int .u8 z) ∧ (8 - q ≤ j → z = (byteK U j : Nat))) ∧ w.frozen? ⟨g, j, none⟩ = false := by
  obtain ⟨ds, h1, h2, h3⟩ := h
  obtain ⟨z, hz, h4⟩ := h3 j hj
  exact ⟨⟨z, (cell_of_row w g j ds 80 (0, 0) h1).trans hz, h4⟩, frozen_of_row w g j ds 80 h1⟩
theorem Dig.put {w : World} {g U q p : Nat} (h : Dig w g U q) (hq : q < 8) (hp : p + q = 7) : Dig (w.setCell ⟨g, p, none⟩ (.int .u8 (byteK U p : Nat))) g U (q + 1) := by
  obtain ⟨ds, h1, h2, h3⟩ := h
  refine ⟨ds.setIfInBounds p (.int .u8 (byteK U p : Nat)), heap_setCell_same w g p ds 80 _ h1, by simpa using h2, fun j hj => ?_⟩
  by_cases hjp : j = p
  · subst hjp
    exact ⟨_, by rw [Array.getElem?_setIfInBounds_self_of_lt (by omega)], fun _ => rfl⟩
  · obtain ⟨z, hz, h4⟩ := h3 j hj
    exact ⟨z, by rw [Array.getElem?_setIfInBounds_ne (Ne.symm hjp)]; exact hz, fun hh => h4 (by omega)⟩
theorem dig_k (U p q : Nat) (hp : p + q = 7) : U / 256 ^ q % 256 = byteK U p := by
  unfold byteK
  rw [show 56 - 8 * p = 8 * q by omega, Nat.pow_mul]
theorem dig_next (U q : Nat) : U / 256 ^ q / 256 = U / 256 ^ (q + 1) := by
  rw [Nat.div_div_eq_div_mul, ← Nat.pow_succ]

theorem set_grown (w : World) (g p : Nat) (u : Value) : w.grownBy (w.setCell ⟨g, p, none⟩ u) (some g) :=
  ⟨rfl, rfl, rfl, by simp, fun k _ hk => heap_setCell_other w ⟨g, p, none⟩ k u (fun e => hk (by simp [e]))⟩
theorem num8_get (U q : Nat) (hq : q < 8) : (num8 U).take (q + 1) = (num8 U).take q ++ [byteK U q] := num8_take U q hq

/-- numbers in a slice -/
def Ints (w : World) (la : Option Addr) (n : Nat) (N : Nat → Int) : Prop :=
  n = 0 ∨ ∃ b off, la = some ⟨b, off, none⟩ ∧ b < w.heap.size ∧ ∀ i, i < n → w.cell? ⟨b, off + i, none⟩ = some (.int .i64 (N i))
theorem Ints.call {w w1 : World} {la : Option Addr} {n : Nat} {N : Nat → Int} (h : Ints w la n N) (hb : Below w.heap.size w w1) : Ints w1 la n N := by
  rcases h with h | ⟨b, off, h1, h2, h3⟩
  · exact .inl h
  · exact .inr ⟨b, off, h1, Nat.lt_of_lt_of_le h2 hb.size, fun i hi => cell_keep hb h2 (h3 i hi)⟩

set_option maxRecDepth 100000 in
set_option maxHeartbeats 1000000 in
theorem appnum_max (base : Nat) (v : Value) (l : List Nat) (n : Int) (u : Nat) (w : World) (hmx : max n 0 = (u : Int)) (ho : w.ownsRow base 5 1 v l.length (bv l)) (hbase : base ≤ w.heap.size) (hl : l.length ≤ 1000000000) (hu : u ≤ 9223372036854775807) :
    Calls Tryd.prog 53 #[v, .int .i64 n] w fun e w' => ∃ v', e = .returned v' ∧ w'.ownsRow base 5 1 v' (l ++ num8 u).length (bv (l ++ num8 u)) ∧ Below base w w' := by
  obtain ⟨i0, hi, hz0, hz1, hz2⟩ := info_parts info5
  go_enter Tryd.func53, Tryd.ntmps53
  go_wp2_with fail
  go_loopw [0, 6] (fun v s wr => ∃ k : Nat, k ≤ 8 ∧ s = .int .i64 (56 - 8 * (k : Int)) ∧ wr.ownsRow base 5 1 v (l ++ (num8 u).take k).length (bv (l ++ (num8 u).take k)) ∧ Below base w wr) (fun _ s _ => (intOf s + 8).toNat)
  case atStart => exact ⟨0, by omega, rfl, by simpa using ho, Below.refl _ _⟩
  case round =>
    obtain ⟨k, hk, rfl, hown, bel⟩ := hrel
    have hlen : (l ++ (num8 u).take k).length ≤ 1000000010 := by
      rw [List.length_append, List.length_take, num8_len]
      omega
    by_cases hlt : k < 8
    · have hge : (0 : Int) ≤ 56 - 8 * (k : Int) := by omega
      go_wp2_with (at_builtin; refine wpList_append_own _ rfl _ _ 30 rfl base 5 i0 (.int .u8 0) 1 1 Tryd.underlying30 hi hz0 hz1 hz2 rfl (by decide) _ _ _ rfl (hown.alloc _) ⟨wr.heap.size, 0, none⟩ 1 1 [.int .u8 ((u : Int) / 2 ^ (56 - 8 * k) % 256)] rfl rfl ?c1 ?c2 ?c3 ?c4 ?c5 ?_)
      case c1 =>
        intro j x hj
        match j, hj with
        | 0, hj => simp at hj; subst hj; simp [Addr.add]
      case c2 => intro x hx; simp at hx; subst hx; rfl
      case c3 => unfold maxLen; omega
      case c4 => omega
      case c5 => have := bel.size; simp; omega
      intro v' w1 hown' hgrow _
      have hb1 : Below base w w1 := (bel.alloc (by have := bel.size; omega) _).grown hgrow (by have := bel.size; simp; omega) (fun g hg => (hown.lt g hg).1)
      go_wp2
      go_roundw
      case rel =>
        refine ⟨k + 1, by omega, by go_num, ?_, hb1⟩
        have e1 : l ++ (num8 u).take (k + 1) = (l ++ (num8 u).take k) ++ [byteK u k] := by rw [num8_take u k hlt, List.append_assoc]
        have e2 : bv [byteK u k] = [.int .u8 ((u : Int) / 2 ^ (56 - 8 * k) % 256)] := by simp [bv, byteK]
        rw [e1, bv_append, List.length_append, e2]
        simp only [List.length_append, List.length_take, List.length_cons, List.length_nil] at hown' ⊢
        exact hown'
      case measure => simp [intOf]; omega
    · have hk8 : k = 8 := by omega
      subst hk8
      have hlt0 : ¬ (0 : Int) ≤ 56 - 8 * ((8 : Nat) : Int) := by omega
      have e1 : (num8 u).take 8 = num8 u := List.take_of_length_le (by rw [num8_len]; omega)
      rw [e1] at hown
      clear e1
      go_wp2
      go_ret
      rw [List.length_append] at hown
      exact ⟨_, rfl, hown, bel⟩


set_option maxRecDepth 100000 in
set_option maxHeartbeats 1000000 in
theorem putm_any (v : Value) (l : List Nat) (la : Option Addr) (n cap : Nat) (N : Nat → Int) (w : World) (hv : Byt w v l) (hl : l.length ≤ 100000000) (hn : n ≤ 1000) (hI : Ints w la n N)
    (hN : ∀ i, i < n → N i ≤ 9223372036854775807) :
    Calls Tryd.prog 32 #[v, .slice la n cap] w fun e w' => ∃ v', e = .returned v' ∧ w'.ownsRow w.heap.size 5 1 v' (putN l N n).length (bv (putN l N n)) ∧ Below w.heap.size w w' := by
  have HNN := hide hN
  clear hN
  go_enter Tryd.func32, Tryd.ntmps32
  go_wp2_with fail
  have hc8 : (8 * (n : Int)) = ((8 * n : Nat) : Int) := by omega
  rw [hc8]
  refine (roomy_any v l (8 * n) _ hv (by omega) (by omega)).mono ?_
  rintro e w1 ⟨v1, rfl, ho1, hb1⟩
  clear hc8
  go_wp2_with fail
  go_loopw [5, 15] (fun v i wr => ∃ k : Nat, k ≤ n ∧ i = .int .i64 k ∧ wr.ownsRow w.heap.size 5 1 v (putN l N k).length (bv (putN l N k)) ∧ Below w.heap.size w wr) (fun _ i _ => n - (intOf i).toNat)
  case atStart => exact ⟨0, by omega, rfl, ho1, hb1⟩
  case round =>
    obtain ⟨k, hk, rfl, hown, bel⟩ := hrel
    by_cases hlt : k < n
    · rcases hI with h | ⟨b, off, rfl, hb, hcs⟩
      · omega
      have hc := cell_keep bel hb (hcs k hlt)
      have hN0 := unhide HNN k hlt
      have g1 : (0 : Int) ≤ (k : Int) := by omega
      have g2 : (k : Int) < (n : Int) := by omega
      have hlen := putN_len l N k
      have HLn := hide hlen
      clear hlen
      go_wp2_with fail
      refine (appnum_max w.heap.size _ _ (N k) (N k).toNat _ (by omega) hown bel.size (by rw [unhide HLn]; omega) (by omega)).mono ?_
      rintro e w2 ⟨v2, rfl, ho2, hb2⟩
      go_wp2
      go_roundw
      case rel => exact ⟨k + 1, by omega, by go_num, ho2, bel.trans hb2⟩
      case measure => simp [intOf]; omega
    · have hkn : k = n := by omega
      subst hkn
      go_wp2
      go_ret
      exact ⟨_, rfl, hown, bel⟩

set_option maxRecDepth 100000 in
set_option maxHeartbeats 4000000 in
theorem refputm_any (v : Value) (l : List Nat) (la : Option Addr) (n cap : Nat) (N : Nat → Int) (w : World) (hv : Byt w v l) (hl : l.length ≤ 100000000) (hn : n ≤ 1000) (hI : Ints w la n N)
    (hN : ∀ i, i < n → N i ≤ 9223372036854775807) :
    Calls Tryd.prog 34 #[v, .slice la n cap] w fun e w' => ∃ v', e = .returned v' ∧ w'.ownsRow w.heap.size 5 1 v' (putN l N n).length (bv (putN l N n)) ∧ Below w.heap.size w w' := by
  obtain ⟨i0, hi, hz0, hz1, hz2⟩ := info_parts info5
  have HNN := hide hN
  clear hN
  have hB : Below w.heap.size w (w.alloc (.cells #[] 5)) := (Below.refl _ _).alloc (Nat.le_refl _) _
  have hown : (w.alloc (.cells #[] 5)).ownsRow w.heap.size 5 1 (.slice (some ⟨w.heap.size, 0, none⟩) 0 0) 0 [] := World.ownsRow_made w #[] 0 (Nat.le_refl _) (Nat.zero_le _) rfl
  rcases hv with ⟨rfl, rfl⟩ | ⟨a, cp, rfl, h1, h2, h3⟩
  · have ho2 : (w.alloc (.cells #[] 5)).ownsRow w.heap.size 5 1 (.slice (some ⟨w.heap.size, 0, none⟩) 0 0) (putN [] N 0).length (bv (putN [] N 0)) := hown
    have hb2 := hB
    clear hown
    obtain ⟨l, hl0⟩ : ∃ l : List Nat, l = [] := ⟨_, rfl⟩
    rw [← hl0] at ho2 hl ⊢
    clear hl0
    go_enter Tryd.func34, Tryd.ntmps34
    go_wp2_with fail
    go_loopw [5, 17] (fun v i wr => ∃ k : Nat, k ≤ n ∧ i = .int .i64 k ∧ wr.ownsRow w.heap.size 5 1 v (putN l N k).length (bv (putN l N k)) ∧ Below w.heap.size w wr) (fun _ i _ => n - (intOf i).toNat)
    case atStart => exact ⟨0, by omega, rfl, ho2, hb2⟩
    case round =>
      obtain ⟨k, hk, rfl, hown, bel⟩ := hrel
      by_cases hlt : k < n
      · rcases hI with h | ⟨b, off, rfl, hb, hcs⟩
        · omega
        have hc := cell_keep bel hb (hcs k hlt)
        have hN0 := unhide HNN k hlt
        have g1 : (0 : Int) ≤ (k : Int) := by omega
        have g2 : (k : Int) < (n : Int) := by omega
        have hlen := putN_len l N k
        have HLn := hide hlen
        clear hlen
        obtain ⟨U, hU⟩ : ∃ U : Nat, (N k).toNat = U := ⟨_, rfl⟩
        have hmx : max (N k) 0 = (U : Int) := by omega
        have hU2 : U ≤ 9223372036854775807 := by omega
        have HU := hide hU
        clear hU
        have hD := Dig.start wr U
        have hO := hown.alloc (.cells #[.int .u8 0, .int .u8 0, .int .u8 0, .int .u8 0, .int .u8 0, .int .u8 0, .int .u8 0, .int .u8 0] 80)
        have hBl := bel.alloc bel.size (.cells #[.int .u8 0, .int .u8 0, .int .u8 0, .int .u8 0, .int .u8 0, .int .u8 0, .int .u8 0, .int .u8 0] 80)
        have hgz := bel.size
        go_wp2_with fail
        go_loopw [9, 23] (fun x i wq => ∃ q : Nat, q ≤ 8 ∧ i = .int .i64 q ∧ x = .int .i64 ((U / 256 ^ q : Nat) : Int) ∧ Dig wq wr.heap.size U q ∧ wq.ownsRow w.heap.size 5 1 u5 (putN l N k).length (bv (putN l N k)) ∧ Below w.heap.size w wq) (fun _ i _ => 8 - (intOf i).toNat)
        case atStart => exact ⟨0, by omega, rfl, by simp, hD, hO, hBl⟩
        case round =>
          obtain ⟨q, hq, rfl, rfl, hDq, hOq, hBq⟩ := hrel
          by_cases hlt8 : q < 8
          · obtain ⟨p, hp⟩ : ∃ p, p + q = 7 := ⟨7 - q, by omega⟩
            have hpi : (7 : Int) - (q : Int) = (p : Int) := by omega
            have hqi : (q : Int) < 8 := by omega
            obtain ⟨⟨z, hz, _⟩, hfz⟩ := hDq.cell (j := p) (by omega)
            have hput := hDq.put hlt8 hp
            have hkd := dig_k U p q hp
            have hkn := dig_next U q
            obtain ⟨V, hV⟩ : ∃ V, U / 256 ^ q = V := ⟨_, rfl⟩
            rw [hV] at hkd hkn ⊢
            rw [← hkd] at hput
            have HPUT := hide hput
            have HKN := hide hkn
            have p0 : (0 : Int) ≤ (p : Int) := by omega
            have p1 : (p : Int) < 8 := by omega
            have hV2 : V ≤ 9223372036854775807 := by rw [← hV]; exact Nat.le_trans (Nat.div_le_self _ _) hU2
            clear hV hkd hkn hput
            have ht : ((V : Int)).tmod 256 = (V : Int) % 256 := Int.tmod_eq_emod_of_nonneg (by omega)
            have hd : ((V : Int)).tdiv 256 = (V : Int) / 256 := Int.tdiv_eq_ediv_of_nonneg (by omega)
            have hne := hDq.ne hOq
            go_wp2_with fail
            go_roundw
            case rel =>
              refine ⟨q + 1, by omega, by go_num, by rw [← unhide HKN]; rfl, unhide HPUT, ?_, ?_⟩
              · exact hOq.kept (set_grown _ _ _ _) (.inr (Ne.symm hne))
              · exact hBq.setCell hgz _
            case measure => simp [intOf]; omega
          · have hq8 : q = 8 := by omega
            rw [hq8] at hDq
            have hqn : ¬ (q : Int) < 8 := by omega
            clear hq8 hq hlt8
            generalize ((U / 256 ^ q : Nat) : Int) = X
            go_wp2_with fail
            go_loopw [5, 35] (fun x i wq => ∃ q : Nat, q ≤ 8 ∧ i = .int .i64 q ∧ Dig wq _ U 8 ∧ wq.ownsRow w.heap.size 5 1 x (putN l N k ++ (num8 U).take q).length (bv (putN l N k ++ (num8 U).take q)) ∧ Below w.heap.size w wq) (fun _ i _ => 8 - (intOf i).toNat)
            case atStart => exact ⟨0, by omega, rfl, hDq, by simpa using hOq, hBq⟩
            case round =>
              obtain ⟨q, hq, rfl, hDq, hOq, hBq⟩ := hrel
              have hln : (putN l N k ++ (num8 U).take q).length ≤ 100009000 := by
                rw [List.length_append, unhide HLn, List.length_take, num8_len]
                omega
              by_cases hlt8 : q < 8
              · have hqi : (q : Int) < 8 := by omega
                have q0 : (0 : Int) ≤ (q : Int) := by omega
                obtain ⟨⟨z, hz, hzz⟩, _⟩ := hDq.cell (j := q) hlt8
                obtain rfl := hzz (by omega)
                have hDa := hDq.alloc (.cells #[.int .u8 (byteK U q : Nat)] 5)
                have hOa := hOq.alloc (.cells #[.int .u8 (byteK U q : Nat)] 5)
                have hne := hDa.ne hOa
                have HNE := hide hne
                have HDA := hide hDa
                clear hne hDa hDq hzz
                go_wp2_with (at_builtin; refine wpList_append_own _ rfl _ _ 30 rfl w.heap.size 5 i0 (.int .u8 0) 1 1 Tryd.underlying30 hi hz0 hz1 hz2 rfl (by decide) _ _ _ rfl hOa ⟨wr.heap.size, 0, none⟩ 1 1 [.int .u8 (byteK U q : Nat)] rfl rfl ?c1 ?c2 ?c3 ?c4 ?c5 ?_)
                case c1 =>
                  intro j x hj
                  match j, hj with
                  | 0, hj => simp at hj; subst hj; simp [Addr.add]
                case c2 => intro x hx; simp at hx; subst hx; rfl
                case c3 => unfold maxLen; omega
                case c4 => omega
                case c5 => have := hBq.size; simp; omega
                intro v' w3 hown' hgrow _
                have hb3 : Below w.heap.size w w3 := (hBq.alloc hBq.size _).grown hgrow (by have := hBq.size; simp; omega) (fun g hg => (hOq.lt g hg).1)
                have hD3 := (unhide HDA).grown hgrow (unhide HNE)
                have hO3 := own_cast hown' (ys := bv (putN l N k ++ (num8 U).take (q + 1))) (m := (putN l N k ++ (num8 U).take (q + 1)).length) (by rw [num8_get U q hlt8, ← List.append_assoc]; simp only [List.length_append, List.length_cons, List.length_nil, List.length_take, Nat.zero_add]) (by rw [num8_get U q hlt8, ← List.append_assoc, bv_append (putN l N k ++ _)]; rfl)
                clear hown' hgrow hOa
                go_wp2_with fail
                go_roundw
                case rel => exact ⟨q + 1, by omega, by go_num, hD3, hO3, hb3⟩
                case measure => simp [intOf]; omega
              · obtain rfl : q = 8 := by omega
                have e8 : (num8 U).take 8 = num8 U := List.take_of_length_le (by rw [num8_len]; omega)
                rw [e8] at hOq hln
                clear e8
                go_wp2_with fail
                go_roundw
                case rel =>
                  refine ⟨k + 1, by omega, by go_num, ?_, hBq⟩
                  rw [show putN l N (k + 1) = putN l N k ++ num8 (N k).toNat from rfl, unhide HU]
                  exact hOq
                case measure => simp [intOf]; omega
      · have hkn : k = n := by omega
        subst hkn
        go_wp2_with fail
        go_ret
        exact ⟨_, rfl, hown, bel⟩
  · have hnews := Byt.news h3
    generalize hln : l.length = ln at *
    have HN := hide hnews
    have HL := hide hln
    clear hnews h3 hln
    go_enter Tryd.func34, Tryd.ntmps34
    go_wp2_with (at_builtin; refine wpList_append_own _ rfl _ _ 30 rfl w.heap.size 5 i0 (.int .u8 0) 1 1 Tryd.underlying30 hi hz0 hz1 hz2 rfl (by decide) _ _ _ rfl hown a ln cp (bv l) rfl ?c0 ?c1 ?c2 ?c3 ?c4 ?c5 ?_)
    case c0 => rw [bv_len, unhide HL]; omega
    case c1 =>
      intro j u hj
      have := unhide HN j u hj
      exact cell_keep hB (lt_of_cell this) this
    case c2 => exact bv_one l
    case c3 => unfold maxLen; omega
    case c4 => omega
    case c5 => simp
    intro v2 w2 hown2 hgrow2 _
    have hb2 : Below w.heap.size w w2 := hB.grown hgrow2 (by simp) (fun k hk => by simp [Value.ownBlock] at hk; omega)
    have ho2 : w2.ownsRow w.heap.size 5 1 v2 (putN l N 0).length (bv (putN l N 0)) := own_cast hown2 (by first | exact (unhide HL).symm | (rw [Nat.zero_add]; exact (unhide HL).symm)) (by simp [putN])
    clear hown2 hgrow2 hown
    have hl : l.length ≤ 100000000 := by rw [unhide HL]; exact hl
    go_wp2_with fail
    go_loopw [5, 17] (fun v i wr => ∃ k : Nat, k ≤ n ∧ i = .int .i64 k ∧ wr.ownsRow w.heap.size 5 1 v (putN l N k).length (bv (putN l N k)) ∧ Below w.heap.size w wr) (fun _ i _ => n - (intOf i).toNat)
    case atStart => exact ⟨0, by omega, rfl, ho2, hb2⟩
    case round =>
      obtain ⟨k, hk, rfl, hown, bel⟩ := hrel
      by_cases hlt : k < n
      · rcases hI with h | ⟨b, off, rfl, hb, hcs⟩
        · omega
        have hc := cell_keep bel hb (hcs k hlt)
        have hN0 := unhide HNN k hlt
        have g1 : (0 : Int) ≤ (k : Int) := by omega
        have g2 : (k : Int) < (n : Int) := by omega
        have hlen := putN_len l N k
        have HLn := hide hlen
        clear hlen
        obtain ⟨U, hU⟩ : ∃ U : Nat, (N k).toNat = U := ⟨_, rfl⟩
        have hmx : max (N k) 0 = (U : Int) := by omega
        have hU2 : U ≤ 9223372036854775807 := by omega
        have HU := hide hU
        clear hU
        have hD := Dig.start wr U
        have hO := hown.alloc (.cells #[.int .u8 0, .int .u8 0, .int .u8 0, .int .u8 0, .int .u8 0, .int .u8 0, .int .u8 0, .int .u8 0] 80)
        have hBl := bel.alloc bel.size (.cells #[.int .u8 0, .int .u8 0, .int .u8 0, .int .u8 0, .int .u8 0, .int .u8 0, .int .u8 0, .int .u8 0] 80)
        have hgz := bel.size
        go_wp2_with fail
        go_loopw [9, 23] (fun x i wq => ∃ q : Nat, q ≤ 8 ∧ i = .int .i64 q ∧ x = .int .i64 ((U / 256 ^ q : Nat) : Int) ∧ Dig wq wr.heap.size U q ∧ wq.ownsRow w.heap.size 5 1 u5 (putN l N k).length (bv (putN l N k)) ∧ Below w.heap.size w wq) (fun _ i _ => 8 - (intOf i).toNat)
        case atStart => exact ⟨0, by omega, rfl, by simp, hD, hO, hBl⟩
        case round =>
          obtain ⟨q, hq, rfl, rfl, hDq, hOq, hBq⟩ := hrel
          by_cases hlt8 : q < 8
          · obtain ⟨p, hp⟩ : ∃ p, p + q = 7 := ⟨7 - q, by omega⟩
            have hpi : (7 : Int) - (q : Int) = (p : Int) := by omega
            have hqi : (q : Int) < 8 := by omega
            obtain ⟨⟨z, hz, _⟩, hfz⟩ := hDq.cell (j := p) (by omega)
            have hput := hDq.put hlt8 hp
            have hkd := dig_k U p q hp
            have hkn := dig_next U q
            obtain ⟨V, hV⟩ : ∃ V, U / 256 ^ q = V := ⟨_, rfl⟩
            rw [hV] at hkd hkn ⊢
            rw [← hkd] at hput
            have HPUT := hide hput
            have HKN := hide hkn
            have p0 : (0 : Int) ≤ (p : Int) := by omega
            have p1 : (p : Int) < 8 := by omega
            have hV2 : V ≤ 9223372036854775807 := by rw [← hV]; exact Nat.le_trans (Nat.div_le_self _ _) hU2
            clear hV hkd hkn hput
            have ht : ((V : Int)).tmod 256 = (V : Int) % 256 := Int.tmod_eq_emod_of_nonneg (by omega)
            have hd : ((V : Int)).tdiv 256 = (V : Int) / 256 := Int.tdiv_eq_ediv_of_nonneg (by omega)
            have hne := hDq.ne hOq
            go_wp2_with fail
            go_roundw
            case rel =>
              refine ⟨q + 1, by omega, by go_num, by rw [← unhide HKN]; rfl, unhide HPUT, ?_, ?_⟩
              · exact hOq.kept (set_grown _ _ _ _) (.inr (Ne.symm hne))
              · exact hBq.setCell hgz _
            case measure => simp [intOf]; omega
          · have hq8 : q = 8 := by omega
            rw [hq8] at hDq
            have hqn : ¬ (q : Int) < 8 := by omega
            clear hq8 hq hlt8
            generalize ((U / 256 ^ q : Nat) : Int) = X
            go_wp2_with fail
            go_loopw [5, 35] (fun x i wq => ∃ q : Nat, q ≤ 8 ∧ i = .int .i64 q ∧ Dig wq _ U 8 ∧ wq.ownsRow w.heap.size 5 1 x (putN l N k ++ (num8 U).take q).length (bv (putN l N k ++ (num8 U).take q)) ∧ Below w.heap.size w wq) (fun _ i _ => 8 - (intOf i).toNat)
            case atStart => exact ⟨0, by omega, rfl, hDq, by simpa using hOq, hBq⟩
            case round =>
              obtain ⟨q, hq, rfl, hDq, hOq, hBq⟩ := hrel
              have hln : (putN l N k ++ (num8 U).take q).length ≤ 100009000 := by
                rw [List.length_append, unhide HLn, List.length_take, num8_len]
                omega
              by_cases hlt8 : q < 8
              · have hqi : (q : Int) < 8 := by omega
                have q0 : (0 : Int) ≤ (q : Int) := by omega
                obtain ⟨⟨z, hz, hzz⟩, _⟩ := hDq.cell (j := q) hlt8
                obtain rfl := hzz (by omega)
                have hDa := hDq.alloc (.cells #[.int .u8 (byteK U q : Nat)] 5)
                have hOa := hOq.alloc (.cells #[.int .u8 (byteK U q : Nat)] 5)
                have hne := hDa.ne hOa
                have HNE := hide hne
                have HDA := hide hDa
                clear hne hDa hDq hzz
                go_wp2_with (at_builtin; refine wpList_append_own _ rfl _ _ 30 rfl w.heap.size 5 i0 (.int .u8 0) 1 1 Tryd.underlying30 hi hz0 hz1 hz2 rfl (by decide) _ _ _ rfl hOa ⟨wr.heap.size, 0, none⟩ 1 1 [.int .u8 (byteK U q : Nat)] rfl rfl ?c1 ?c2 ?c3 ?c4 ?c5 ?_)
                case c1 =>
                  intro j x hj
                  match j, hj with
                  | 0, hj => simp at hj; subst hj; simp [Addr.add]
                case c2 => intro x hx; simp at hx; subst hx; rfl
                case c3 => unfold maxLen; omega
                case c4 => omega
                case c5 => have := hBq.size; simp; omega
                intro v' w3 hown' hgrow _
                have hb3 : Below w.heap.size w w3 := (hBq.alloc hBq.size _).grown hgrow (by have := hBq.size; simp; omega) (fun g hg => (hOq.lt g hg).1)
                have hD3 := (unhide HDA).grown hgrow (unhide HNE)
                have hO3 := own_cast hown' (ys := bv (putN l N k ++ (num8 U).take (q + 1))) (m := (putN l N k ++ (num8 U).take (q + 1)).length) (by rw [num8_get U q hlt8, ← List.append_assoc]; simp only [List.length_append, List.length_cons, List.length_nil, List.length_take, Nat.zero_add]) (by rw [num8_get U q hlt8, ← List.append_assoc, bv_append (putN l N k ++ _)]; rfl)
                clear hown' hgrow hOa
                go_wp2_with fail
                go_roundw
                case rel => exact ⟨q + 1, by omega, by go_num, hD3, hO3, hb3⟩
                case measure => simp [intOf]; omega
              · obtain rfl : q = 8 := by omega
                have e8 : (num8 U).take 8 = num8 U := List.take_of_length_le (by rw [num8_len]; omega)
                rw [e8] at hOq hln
                clear e8
                go_wp2_with fail
                go_roundw
                case rel =>
                  refine ⟨k + 1, by omega, by go_num, ?_, hBq⟩
                  rw [show putN l N (k + 1) = putN l N k ++ num8 (N k).toNat from rfl, unhide HU]
                  exact hOq
                case measure => simp [intOf]; omega
      · have hkn : k = n := by omega
        subst hkn
        go_wp2_with fail
        go_ret
        exact ⟨_, rfl, hown, bel⟩
end Go.Proofs.YtbnfilhilgjnfaaDoor
