/- Awake. -/
import Derived.Test.YtbahnkomdndmkacDoorText
import Derived.Lib.SlBytesConst
namespace Go.Proofs.YtbahnkomdndmkacDoor
set_option linter.unusedVariables false
set_option linter.unusedSimpArgs false
open Go.ChangeShapes Go.WideShapes Go.ChangeAt Go.RowKit Go.Shelf

theorem numOf_num8 (u : Nat) (hu : u < 18446744073709551616) : numOf (num8 u) = u := by
  simp only [num8, numOf, byteK, List.range, List.range.loop, List.map_cons, List.map_nil, List.foldl_cons, List.foldl_nil]
  simp only [Nat.reduceMul, Nat.reduceSub, Nat.reducePow]
  omega
theorem seal_head (d : List Nat) (r : List Nat) (hd : d.length < 18446744073709551616) : numOf ((sealB d ++ r).take 8) = d.length := by
  have e : (sealB d ++ r).take 8 = num8 d.length := by
    simp only [sealB, putB, List.nil_append, List.append_assoc]
    rw [List.take_append_of_le_length (by rw [num8_len]; omega), List.take_of_length_le (by rw [num8_len]; omega)]
  rw [e, numOf_num8 _ hd]
theorem seal_len (d : List Nat) : (sealB d).length = 12 + d.length := by
  simp only [sealB, List.length_append, putB_len, sum4, List.length_cons, List.length_nil]; omega
theorem seal_put (d : List Nat) (r : List Nat) : (sealB d ++ r).take (8 + d.length) = putB [] d := by
  have h : (putB [] d).length = 8 + d.length := by rw [putB_len]; simp
  simp only [sealB, List.append_assoc]
  rw [← h, List.take_left]
theorem seal_sum (d : List Nat) (r : List Nat) : ((sealB d ++ r).drop (8 + d.length)).take 4 = sum4 (sumTo (putB [] d)) := by
  have h : (putB [] d).length = 8 + d.length := by rw [putB_len]; simp
  simp only [sealB, List.append_assoc]
  rw [← h, List.drop_left, List.take_append_of_le_length (by simp [sum4]), List.take_of_length_le (by simp [sum4])]
theorem seal_data (d : List Nat) (r : List Nat) : ((sealB d ++ r).drop 8).take d.length = d := by
  simp only [sealB, putB, List.nil_append, List.append_assoc]
  rw [List.drop_append_of_le_length (by rw [num8_len]; omega), List.drop_of_length_le (by rw [num8_len]; omega), List.nil_append, List.take_left]
theorem sum4_256 {s : Int} (h : R32 s) : ∀ y ∈ sum4 s, y < 256 := by
  have := h.1
  have := h.2
  intro y hy
  simp only [sum4, List.mem_cons, List.mem_nil_iff, or_false] at hy
  rcases hy with rfl | rfl | rfl | rfl <;> omega
theorem seal_256 {d : List Nat} (hd : ∀ y ∈ d, y < 256) : ∀ y ∈ sealB d, y < 256 := by
  intro y hy
  have h := putB_256 (l := []) (fun y hy => by cases hy) hd
  rcases List.mem_append.1 hy with hy | hy
  · exact h y hy
  · exact sum4_256 (sum_r32 _ h) y hy

theorem nil_byt (w : World) : Byt w (.slice none 0 0) [] := .inl ⟨rfl, rfl⟩
theorem own_low {w : World} {v : Value} {l : List Nat} {b : Nat} (h : w.ownsRow b 5 1 v l.length (bv l)) : Byt w v l ∧ Low v w.heap.size := ⟨Byt.of_own h, byt_low (Byt.of_own h)⟩
theorem lit_byt (w : World) (l : List Nat) (fr : Nat × Nat) (n : Nat) (hn : l.length = n) (hm : n ≤ 1000) : Byt (w.alloc (.cells ((bv l).toArray) 5 fr)) (.slice (some ⟨w.heap.size, 0, none⟩) n n) l := by
  subst hn
  refine .inr ⟨_, _, rfl, Nat.le_refl _, by unfold maxLen; omega, fun i y hy => ?_⟩
  rw [add_plain, World.cell?_alloc_mark]
  simp [bv, hy]

theorem put300 (w : World) : Calls Tryd.prog 39 #[.slice none 0 0, .slice (some ⟨w.heap.size, 0, none⟩) 1 1] (w.alloc (.cells #[.int .i64 300] 3)) fun e w' => ∃ v', e = .returned v' ∧ w'.ownsRow (w.alloc (.cells #[.int .i64 300] 3)).heap.size 5 1 v' (num8 300).length (bv (num8 300)) ∧ Below (w.alloc (.cells #[.int .i64 300] 3)).heap.size (w.alloc (.cells #[.int .i64 300] 3)) w' := by
  refine put_any (.slice none 0 0) [] w.heap.size 1 1 (fun _ => 300) _ (nil_byt _) (by decide) (by decide) (by simp) ?_
  intro i hi
  obtain rfl : i = 0 := by omega
  exact ⟨by simp [go_sem], by decide, by decide⟩

set_option maxHeartbeats 4000000 in
theorem awake_any (w : World) (hT : Tabs w) :
    Calls Tryd.prog 9 #[] w fun e w' => e = .returned (.bool true) ∧ Below w.heap.size w w' := by
  have kc := fun (w : World) (C : Array Value) (n c : Nat) => Lib.run_convert_bytes_const (P := Tryd.prog) w 22 5 C n c Tryd.underlying22 Tryd.underlying5
  have h2 : 2 ≤ w.heap.size := lt_of_cell hT.2.1
  go_enter Tryd.func9, Tryd.ntmps9
  have L1 := lit_byt w [97] (1, 2) 1 rfl (by decide)
  have B1 : Below w.heap.size w (w.alloc (.cells #[.int .u8 97] 5 (1, 2))) := (Below.refl _ _).alloc (Nat.le_refl _) _
  have hsl := seal_len [97]
  have HSL := hide hsl
  clear hsl
  go_wp2_with fail
  clear kc
  refine (seal_any _ [97] _ L1 (by decide) (by decide)).mono ?_
  rintro e w1 ⟨v1, rfl, ho1, hb1⟩
  have B2 := B1.trans (hb1.mono B1.size)
  obtain ⟨Y1, W1⟩ := own_low ho1
  have HO1 := hide ho1
  clear ho1 L1
  obtain ⟨a1, cap1, rfl⟩ := byt_shape Y1
  rw [unhide HSL] at Y1 W1
  rw [unhide HSL]
  go_wp2_with fail
  have hop := open_any a1 13 cap1 (sealB [97]) w1 Y1 W1 (by decide) (seal_256 (by decide)) 1 (by have q := seal_head [97] [] (by decide); rw [List.append_nil] at q; exact q) (by decide) (by decide) (by have q := seal_sum [97] []; have q2 := seal_put [97] []; rw [List.append_nil] at q q2; rw [← q2] at q; exact q)
  have hsd := seal_data [97] []
  rw [List.append_nil] at hsd
  refine hop.mono ?_
  rintro e w2 ⟨v2, rfl, Y2, hb2⟩
  clear hop
  rw [show ([97] : List Nat).length = 1 from rfl] at hsd
  rw [hsd] at Y2
  clear hsd
  have B3 := B2.trans (hb2.mono B2.size)
  obtain ⟨a2, cap2, rfl⟩ := byt_shape Y2
  go_wp2_with fail
  have B3' : Below w2.heap.size w2 (w2.alloc (.cells #[.int .i64 300] 3)) := (Below.refl _ _).alloc (Nat.le_refl _) _
  have hput := put300 w2
  refine hput.mono ?_
  clear hput
  rintro e w3 ⟨v3, rfl, ho3, hb3⟩
  have Y3 := Byt.of_own ho3
  clear ho3
  have C3 := B3'.trans (hb3.mono B3'.size)
  have B4 := B3.trans (C3.mono B3.size)
  have Y2' := Y2.call C3
  clear Y2
  obtain ⟨a3, cap3, rfl⟩ := byt_shape Y3
  go_wp2_with fail
  refine (puttext_any _ (num8 300) ⟨#[195, 169]⟩ _ Y3 (by decide) (by decide)).mono ?_
  rintro e w4 ⟨v4, rfl, ho4, hb4⟩
  have e4 : putB (num8 300) (txt ⟨#[195, 169]⟩) = [0, 0, 0, 0, 0, 0, 1, 44, 0, 0, 0, 0, 0, 0, 0, 2, 195, 169] := by decide +kernel
  rw [e4] at ho4
  have Y4 := Byt.of_own ho4
  clear ho4 e4 Y3
  have B5 := B4.trans (hb4.mono B4.size)
  have Y2'' := Y2'.call hb4
  clear Y2'
  obtain ⟨a4, cap4, rfl⟩ := byt_shape Y4
  go_wp2_with fail
  refine (read_any _ _ _ Y4 (by decide)).mono ?_
  rintro e w5 ⟨v5, g, rfl, hg5, R5, Y5, L5, hb5⟩
  have B6 := B5.trans (hb5.mono B5.size)
  have Y2 := Y2''.call hb5
  clear Y2'' Y4
  obtain ⟨a5, cap5, rfl⟩ := byt_shape Y5
  go_wp2_with fail
  have B6' : Below w5.heap.size w5 (w5.alloc (.cells #[.int .i64 300] 3)) := (Below.refl _ _).alloc (Nat.le_refl _) _
  have hput := put300 w5
  refine hput.mono ?_
  clear hput
  rintro e w6 ⟨v6, rfl, ho6, hb6⟩
  have Y6 := Byt.of_own ho6
  clear ho6
  have C6 := B6'.trans (hb6.mono B6'.size)
  obtain ⟨a6, cap6, rfl⟩ := byt_shape Y6
  have L7 := lit_byt w6 [0, 0, 0, 0, 0, 0, 1, 44] (0, 0) 8 rfl (by decide)
  have B7 : Below w6.heap.size w6 (w6.alloc (.cells ((bv [0, 0, 0, 0, 0, 0, 1, 44]).toArray) 5)) := (Below.refl _ _).alloc (Nat.le_refl _) _
  have C7 := C6.trans (B7.mono C6.size)
  have Y6' := Y6.call B7
  have Y2a := Y2.call C7
  have Y5a := Y5.call C7
  have R5a := R5.below (C7.mono (show g + 1 ≤ w5.heap.size from R5.1.2))
  have T5 := (hT.below B6).below C7
  have D7 := B6.trans (C7.mono B6.size)
  clear Y6 Y2 Y5 R5
  have hw7 : (w6.alloc (.cells ((bv [0, 0, 0, 0, 0, 0, 1, 44]).toArray) 5)) = (w6.alloc (.cells #[.int .u8 0, .int .u8 0, .int .u8 0, .int .u8 0, .int .u8 0, .int .u8 0, .int .u8 1, .int .u8 44] 5)) := rfl
  rw [hw7] at D7 T5 R5a Y5a Y2a Y6' L7
  clear hw7 C7 B7
  go_wp2_with fail
  generalize (w6.alloc (.cells #[.int .u8 0, .int .u8 0, .int .u8 0, .int .u8 0, .int .u8 0, .int .u8 0, .int .u8 1, .int .u8 44] 5)) = w7 at *
  refine (equal_any _ _ _ _ _ Y6' L7 (num8_256 _) (by decide)).mono ?_
  rintro e w' ⟨rfl, rfl⟩
  rw [show ((strOf (num8 300)).toList == (strOf [0, 0, 0, 0, 0, 0, 1, 44]).toList) = true by decide +kernel]
  have hcv : (convert 22 9 (.slice a2 1 cap2)).run Tryd.prog w7 = .ok (.string (strOf [97])) w7 := byt_convert Y2a (by decide)
  have hse : (strOf [97]).toList = [97] := by decide +kernel
  go_wp2_with fail
  refine (sum_any _ [] _ (nil_byt _) (by decide) (by decide)).mono ?_
  rintro e w' ⟨rfl, rfl⟩
  rw [show sumTo [] = 4294967295 from rfl]
  go_wp2_with fail
  clear hcv
  refine (Number_any g a5 18 cap5 _ 0 _ Y5a R5a L5 (by decide) (by decide) (by decide) 300 (by decide +kernel) (by decide)).mono ?_
  rintro e w8 ⟨rfl, R8, hb8⟩
  have hg2 : 2 ≤ g := by have := B5.size; omega
  have Y8 := Y5a.low hb8 L5
  have T8 := T5.low hg2 hb8
  have hgw : w.heap.size ≤ g := Nat.le_trans B5.size hg5
  have D8 := D7.trans (hb8.mono hgw)
  clear Y5a T5 R5a
  have hse2 : (strOf [195, 169]).toList = [195, 169] := by decide +kernel
  go_wp2_with fail
  refine (Text_e g a5 18 cap5 _ 8 _ T8 hg2 Y8 R8 L5 (by decide) (by decide) (by decide +kernel) (by decide) (by decide +kernel)).mono ?_
  rintro e w9 ⟨rfl, R9, hb9⟩
  have D9 := D8.trans (hb9.mono hgw)
  go_wp2_with fail
  refine (End_any g a5 18 cap5 _ R9 (by decide)).mono ?_
  rintro e w10 ⟨rfl, d, rfl⟩
  go_wp2
  go_ret
  exact ⟨rfl, D9.trans (Joins.below_draws _ _ d)⟩
end Go.Proofs.YtbahnkomdndmkacDoor
