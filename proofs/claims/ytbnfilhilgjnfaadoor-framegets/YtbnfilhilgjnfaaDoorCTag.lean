/- The tag behind what is hidden. -/
import Derived.Test.YtbnfilhilgjnfaaDoorCOct
import Derived.Test.YtbnfilhilgjnfaaDoorKeyed
import Derived.Test.YtbnfilhilgjnfaaDoorCTurn
namespace Go.Proofs.YtbnfilhilgjnfaaDoor
set_option linter.unusedVariables false
set_option linter.unusedSimpArgs false
open Go.ChangeShapes Go.WideShapes Go.ChangeAt Go.RowKit Go.Joins

def tagN (once hn : Nat) : Nat → Int
  | 0 => ((once / 2 : Nat) : Int)
  | 1 => ((once % 2 : Nat) : Int)
  | _ => (hn : Int)
def numsL (once hn : Nat) : List Nat := putN [] (tagN once hn) 3
def sumT (key : List Nat) (once : Nat) (head hidden : List Nat) : List Nat := keyedL (key.drop 32) (numsL once head.length ++ head ++ hidden)
def tagL (key : List Nat) (once : Nat) (head hidden : List Nat) : List Nat := (sumT key once head hidden).take 16
theorem sumT_len (key : List Nat) (once : Nat) (head hidden : List Nat) : (sumT key once head hidden).length = 32 := keyedL_len _ _
theorem tagL_len (key : List Nat) (once : Nat) (head hidden : List Nat) : (tagL key once head hidden).length = 16 := by rw [tagL, List.length_take, sumT_len]; rfl
theorem num8_8 (u : Nat) : U8 (num8 u) := by
  intro y hy
  simp only [num8, List.mem_map] at hy
  obtain ⟨k, _, rfl⟩ := hy
  exact Nat.mod_lt _ (by decide)
theorem putN_8 {l : List Nat} (h : U8 l) (M : Nat → Int) : ∀ k, U8 (putN l M k)
  | 0 => h
  | k + 1 => fun y hy => by
    rcases List.mem_append.1 hy with hy | hy
    · exact putN_8 h M k y hy
    · exact num8_8 _ y hy
theorem keyedL_8 (key all : List Nat) : U8 (keyedL key all) := sumL_8 _ _
theorem tagL_8 (key : List Nat) (once : Nat) (head hidden : List Nat) : U8 (tagL key once head hidden) := fun y hy => keyedL_8 _ _ y (List.mem_of_mem_take hy)
theorem cadd_add (a : Addr) (i j : Nat) : (a.add i).add j = a.add (i + j) := add_add a i j
theorem Byt.drop {w : World} {a : Addr} {n c : Nat} {l : List Nat} (h : Byt w (.slice (some a) n c) l) (i : Nat) (hi : i ≤ n) : Byt w (.slice (some (a.add i)) (n - i) (c - i)) (l.drop i) := by
  rcases h with ⟨h, _⟩ | ⟨a', c', h1, h2, h3, h4⟩
  · cases h
  · injection h1 with e1 e2 e3
    injection e1 with e1
    subst e1 e2 e3
    refine .inr ⟨_, _, by rw [List.length_drop], by rw [List.length_drop]; omega, by omega, fun j y hy => ?_⟩
    rw [List.getElem?_drop] at hy
    rw [cadd_add]
    exact h4 _ y hy

set_option maxRecDepth 100000 in
set_option maxHeartbeats 4000000 in
theorem tag_any (kv hv uv : Value) (key head hidden : List Nat) (once : Nat) (w : World) (hT : Tabs w) (hk : Byt w kv key) (hh : Byt w hv head) (hu : Byt w uv hidden) (hk8 : U8 key) (hh8 : U8 head) (hu8 : U8 hidden) (hkl : key.length = 64) (hhl : head.length ≤ 1000000) (hul : hidden.length ≤ 1000000) (ho : once < 18446744073709551616) :
    Calls Tryd.prog 63 #[kv, .int .u64 (once : Int), hv, uv] w
      fun e w' => ∃ g, e = .returned (.slice (some ⟨g, 0, none⟩) 16 32) ∧ w.heap.size ≤ g ∧ RowAt w' g 90 (bv (sumT key once head hidden)) ∧ Below w.heap.size w w' := by
  have HT := hide hT
  have HK := hide hk
  have HH := hide hh
  have HU := hide hu
  obtain ⟨ha, hc, hhe⟩ := byt_shape hh
  obtain ⟨ua, uc, hue⟩ := byt_shape hu
  obtain ⟨hn, hhn⟩ : ∃ x, head.length = x := ⟨_, rfl⟩
  obtain ⟨un, hun⟩ : ∃ x, hidden.length = x := ⟨_, rfl⟩
  rw [hhn] at hhe
  rw [hun] at hue
  subst hhe hue
  obtain ⟨ka, kc, rfl, hkc⟩ : ∃ ka kc, kv = .slice (some ka) 64 kc ∧ 64 ≤ kc := by
    rcases hk with ⟨h1, h2⟩ | ⟨a, c, h1, h2, _⟩
    · rw [h2] at hkl; cases hkl
    · exact ⟨a, c, by rw [h1, hkl], by omega⟩
  have hz := zero27
  generalize hZ : (bv (List.replicate 32 0)).toArray = Z at hz
  have HZS : Hid (Z.size = 32) := hide (by rw [← hZ, List.size_toArray, bv_len, List.length_replicate])
  obtain ⟨o1, ho1⟩ : ∃ x, once / 2 = x := ⟨_, rfl⟩
  obtain ⟨o2, ho2⟩ : ∃ x, once % 2 = x := ⟨_, rfl⟩
  have e1 : (once : Int) / 2 = (o1 : Int) := by omega
  have o2b : o2 < 2 := by omega
  have o1b : o1 ≤ 9223372036854775807 := by omega
  have e2 : bits .and .u64 (once : Int) 1 = (o2 : Int) := by
    have := u64_and_nat once 1 ho (by decide)
    rw [Nat.and_one_is_mod, ho2] at this
    exact this
  have b1 : Below w.heap.size w (w.alloc (.cells #[.int .i64 (o1 : Int), .int .i64 (o2 : Int), .int .i64 (hn : Int)] 3)) := (Below.refl _ _).alloc (Nat.le_refl _) _
  have hcell := RowAt.new w 3 [.int .i64 (o1 : Int), .int .i64 (o2 : Int), .int .i64 (hn : Int)]
  have HPT := hide (put_any (.slice none 0 0) [] w.heap.size 3 3 (tagN once hn) (w.alloc (.cells #[.int .i64 (o1 : Int), .int .i64 (o2 : Int), .int .i64 (hn : Int)] 3)) (.inl ⟨rfl, rfl⟩) (by simp) (by omega) (by rw [csize_alloc]; omega)
    (fun i hi => by
      match i, hi with
      | 0, _ => exact ⟨by rw [tagN, ho1]; exact hcell.cell 0, by rw [tagN]; omega, by rw [tagN]; omega⟩
      | 1, _ => exact ⟨by rw [tagN, ho2]; exact hcell.cell 1, by rw [tagN]; omega, by rw [tagN]; omega⟩
      | 2, _ => exact ⟨hcell.cell 2, by show (0 : Int) ≤ (hn : Int); omega, by show (hn : Int) ≤ 9223372036854775807; omega⟩))
  have HB1 := hide b1
  obtain ⟨NL, hNL⟩ : ∃ x, numsL once hn = x := ⟨_, rfl⟩
  have HNU : Hid (U8 NL) := hide (hNL ▸ putN_8 (fun y hy => by cases hy) _ 3)
  have HNN : Hid (NL.length = 24) := hide (by rw [← hNL, numsL, putN_len]; rfl)
  have e9 : putN [] (tagN once hn) 3 = NL := hNL
  rw [e9] at HPT
  have HSE : Hid (sumT key once head hidden = keyedL (key.drop 32) (NL ++ head ++ hidden)) := hide (by rw [sumT, hhn, hNL])
  have HK8 := hide hk8
  have HH8 := hide hh8
  have HU8 := hide hu8
  have HKL := hide hkl
  have HHL := hide hhl
  have HUL := hide hul
  clear hT hk hh hu hk8 hh8 hu8 hkl hhl hul hZ b1 hcell hNL e9 ho1 ho2 hhn hun
  go_enter Tryd.func63, Tryd.ntmps63
  go_wp2_with fail
  generalize w.alloc (.cells #[.int .i64 (o1 : Int), .int .i64 (o2 : Int), .int .i64 (hn : Int)] 3) = w1 at *
  refine Calls.mono (unhide HPT) ?_
  rintro e w2 ⟨v2, rfl, ow2, b2⟩
  have B2 := (unhide HB1).trans (b2.mono (unhide HB1).size)
  have V2 := Byt.of_own ow2
  obtain ⟨na, nc, hne⟩ := byt_shape V2
  rw [unhide HNN] at hne
  subst hne
  have L3 := LL.three V2 ((unhide HH).call B2) ((unhide HU).call B2)
  have b3 : Below w2.heap.size w2 (w2.alloc (.cells #[.slice na 24 nc, .slice ha hn hc, .slice ua un uc] 30)) := (Below.refl _ _).alloc (Nat.le_refl _) _
  have B3 := B2.trans (b3.mono B2.size)
  have eF : flat [(Value.slice na 24 nc, NL), (Value.slice ha hn hc, head), (Value.slice ua un uc, hidden)] = NL ++ head ++ hidden := by simp [flat]
  have hkd : (key.drop 32).length = 32 := by rw [List.length_drop, unhide HKL]
  have HKD := hide (keyed_any (.slice (some (ka.add 32)) 32 (kc - 32)) (key.drop 32) _ _ _ ((unhide HT).below B3) (((unhide HK).call B3).drop 32 (by omega)) (fun y hy => unhide HK8 y (List.mem_of_mem_drop hy)) (by rw [hkd]; omega) L3 (fun x hx => by
    rcases List.mem_cons.1 hx with rfl | hx
    · exact unhide HNU
    · rcases List.mem_cons.1 hx with rfl | hx
      · exact unhide HH8
      · obtain rfl := List.mem_singleton.1 hx
        exact unhide HU8) (by rw [eF, List.length_append, List.length_append, unhide HNN]; have := unhide HHL; have := unhide HUL; omega))
  rw [eF, ← unhide HSE] at HKD
  have HB3 := hide B3
  clear ow2 b2 B2 V2 L3 b3 B3 eF hkd HPT HB1
  go_wp2_with fail
  generalize w2.alloc (.cells #[.slice na 24 nc, .slice ha hn hc, .slice ua un uc] 30) = w3 at *
  refine Calls.mono (unhide HKD) ?_
  rintro e w4 ⟨rfl, b4⟩
  obtain ⟨E, hE⟩ : ∃ x, (bv (sumT key once head hidden)).toArray = x := ⟨_, rfl⟩
  rw [hE]
  have HES : Hid (E.size = 32) := hide (by rw [← hE, List.size_toArray, bv_len, sumT_len])
  have HEO : Hid (E.all (·.oneCell') = true) := hide (hE ▸ one_bv _)
  obtain ⟨gs, hgs⟩ : ∃ x, w4.heap.size = x := ⟨_, rfl⟩
  have B4 := (unhide HB3).trans (b4.mono (unhide HB3).size)
  have HR5 : Hid (RowAt (w4.alloc (.cells E 90)) gs 90 (bv (sumT key once head hidden))) := hide (by
    have := RowAt.new w4 90 (bv (sumT key once head hidden))
    rw [hE, hgs] at this
    exact this)
  have HB5 := hide (B4.alloc B4.size (.cells E 90))
  have HGS : Hid (w.heap.size ≤ gs) := hide (by have := B4.size; omega)
  clear b4 B4 hE HKD HB3
  go_wp2_with (refine wpList_store_newc rfl 90 _ _ rfl E gs hgs (by kernel_rfl) (by kernel_rfl) (by rw [z27, unhide HES]) (by rw [unhide HES, unhide HZS]) (unhide HEO) ?_)
  go_ret
  exact ⟨gs, rfl, unhide HGS, unhide HR5, unhide HB5⟩
end Go.Proofs.YtbnfilhilgjnfaaDoor
