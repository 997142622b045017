/- What is wrapped, taken apart: its numbers, head, hidden bytes and tag; and bytes that are taken apart, put together again. -/
import Derived.Test.YtonkgiiacholeaaDoorFUnwB
import Derived.Test.YtonkgiiacholeaaDoorFNum
namespace Go.Proofs.YtonkgiiacholeaaDoor
set_option linter.unusedVariables false
set_option linter.unusedSimpArgs false
open Go.ChangeShapes Go.WideShapes Go.ChangeAt Go.RowKit Go.Joins

theorem turn_twice (W b : List Nat) : turnL W (turnL W b) = b := by
  apply List.ext_getElem?
  intro i
  by_cases hi : i < b.length
  · rw [turnL, List.getElem?_map, List.getElem?_range (by rw [turnL_len]; exact hi), Option.map_some, turnW, turnL_getD W b i hi, turnW, Nat.xor_assoc, Nat.xor_self, Nat.xor_zero, List.getD_eq_getElem?_getD, List.getElem?_eq_getElem hi]
    rfl
  · rw [List.getElem?_eq_none (by rw [turnL_len, turnL_len]; omega), List.getElem?_eq_none (by omega)]
theorem tk_twice (key : List Nat) (once : Nat) (b : List Nat) : tkL key once (tkL key once b) = b := turn_twice _ _
theorem num8_eq (u : Nat) : num8 u = [u / 72057594037927936 % 256, u / 281474976710656 % 256, u / 1099511627776 % 256, u / 4294967296 % 256, u / 16777216 % 256, u / 65536 % 256, u / 256 % 256, u % 256] := by
  simp [num8, byteK, List.range_succ]
theorem numOf_num8 (u : Nat) (h : u < 18446744073709551616) : Oct.numOf (num8 u) = u := by
  rw [num8_eq]
  simp only [Oct.numOf, List.foldl]
  omega
theorem num8_numOf (l : List Nat) (hl : l.length = 8) (h8 : U8 l) : num8 (Oct.numOf l) = l := by
  match l, hl with
  | [a, b, c, d, e, f, g, h], _ =>
    have ha := h8 a (by simp)
    have hb := h8 b (by simp)
    have hc := h8 c (by simp)
    have hd := h8 d (by simp)
    have he := h8 e (by simp)
    have hf := h8 f (by simp)
    have hg := h8 g (by simp)
    have hh := h8 h (by simp)
    clear h8
    rw [num8_eq]
    simp only [Oct.numOf, List.foldl]
    have e1 : (((((((0 * 256 + a) * 256 + b) * 256 + c) * 256 + d) * 256 + e) * 256 + f) * 256 + g) * 256 + h = a * 72057594037927936 + b * 281474976710656 + c * 1099511627776 + d * 4294967296 + e * 16777216 + f * 65536 + g * 256 + h := by omega
    rw [e1]
    obtain ⟨U, hU⟩ : ∃ U, a * 72057594037927936 + b * 281474976710656 + c * 1099511627776 + d * 4294967296 + e * 16777216 + f * 65536 + g * 256 + h = U := ⟨_, rfl⟩
    rw [hU]
    have q1 : U / 72057594037927936 % 256 = a := by omega
    have q2 : U / 281474976710656 % 256 = b := by omega
    have q3 : U / 1099511627776 % 256 = c := by omega
    have q4 : U / 4294967296 % 256 = d := by omega
    have q5 : U / 16777216 % 256 = e := by omega
    have q6 : U / 65536 % 256 = f := by omega
    have q7 : U / 256 % 256 = g := by omega
    have q8 : U % 256 = h := by omega
    rw [q1, q2, q3, q4, q5, q6, q7, q8]
theorem headL_eq (c s k : Nat) : headL c s k = num8 c ++ (num8 s ++ num8 k) := by
  simp [headL, putN, headN]
theorem take_app {a b : List Nat} {n : Nat} (h : a.length = n) : (a ++ b).take n = a := by rw [← h, List.take_left]
theorem drop_app {a b : List Nat} {n : Nat} (h : a.length = n) : (a ++ b).drop n = b := by rw [← h, List.drop_left]
structure Parts (key : List Nat) (up : Bool) (c s k : Nat) (body l : List Nat) : Prop where
  n1 : Oct.numOf (l.take 8) = c
  n2 : Oct.numOf ((l.drop 8).take 8) = s
  n3 : Oct.numOf ((l.drop 16).take 8) = k
  hd : l.take 24 = headL c s k
  hid : (l.drop 24).take (l.length - 40) = tkL key (onceU s up) body
  tag : (l.drop 24).drop (l.length - 40) = tagL key (onceU s up) (headL c s k) (tkL key (onceU s up) body)
theorem parts_of (key : List Nat) (up : Bool) (c s k : Nat) (body : List Nat) (hc : c ≤ 1099511627776) (hs : s ≤ 1099511627776) (hk : k ≤ 1099511627776) : Parts key up c s k body (wrapL key up c s k body) := by
  have hl := wrapL_len key up c s k body
  have hh := headL_len c s k
  have e : wrapL key up c s k body = headL c s k ++ (tkL key (onceU s up) body ++ tagL key (onceU s up) (headL c s k) (tkL key (onceU s up) body)) := rfl
  have hd : (wrapL key up c s k body).take 24 = headL c s k := by rw [e]; exact take_app hh
  have dr : (wrapL key up c s k body).drop 24 = tkL key (onceU s up) body ++ tagL key (onceU s up) (headL c s k) (tkL key (onceU s up) body) := by rw [e]; exact drop_app hh
  have ht : (tkL key (onceU s up) body).length = (wrapL key up c s k body).length - 40 := by rw [hl, tkL_len]; omega
  have p1 : (wrapL key up c s k body).take 8 = num8 c := by
    have := congrArg (List.take 8) hd
    rw [List.take_take, Nat.min_eq_left (by omega), headL_eq, take_app (num8_len c)] at this
    exact this
  have p2 : ((wrapL key up c s k body).drop 8).take 8 = num8 s := by
    rw [← take_piece _ 8 (by omega), hd, headL_eq, drop_app (num8_len c), take_app (num8_len s)]
  have p3 : ((wrapL key up c s k body).drop 16).take 8 = num8 k := by
    rw [← take_piece _ 16 (by omega), hd, headL_eq, ← List.append_assoc, drop_app (by rw [List.length_append, num8_len, num8_len]), ← num8_len k, List.take_length]
  exact ⟨by rw [p1]; exact numOf_num8 c (by omega), by rw [p2]; exact numOf_num8 s (by omega), by rw [p3]; exact numOf_num8 k (by omega), hd, by rw [dr]; exact take_app ht, by rw [dr]; exact drop_app ht⟩
theorem wrap_again (key : List Nat) (up : Bool) (l : List Nat) (c s k : Nat) (h8 : U8 l) (h40 : 40 ≤ l.length) (hc : Oct.numOf (l.take 8) = c) (hs : Oct.numOf ((l.drop 8).take 8) = s) (hk : Oct.numOf ((l.drop 16).take 8) = k)
    (ht : (l.drop 24).drop (l.length - 40) = tagL key (onceU s up) (l.take 24) ((l.drop 24).take (l.length - 40))) : wrapL key up c s k (tkL key (onceU s up) ((l.drop 24).take (l.length - 40))) = l := by
  have u1 : U8 (l.take 8) := fun y hy => h8 y (List.mem_of_mem_take hy)
  have u2 : U8 ((l.drop 8).take 8) := fun y hy => h8 y (List.mem_of_mem_drop (List.mem_of_mem_take hy))
  have u3 : U8 ((l.drop 16).take 8) := fun y hy => h8 y (List.mem_of_mem_drop (List.mem_of_mem_take hy))
  have hd : headL c s k = l.take 24 := by
    rw [headL_eq, ← hc, ← hs, ← hk, num8_numOf _ (by rw [List.length_take]; omega) u1, num8_numOf _ (by rw [List.length_take, List.length_drop]; omega) u2, num8_numOf _ (by rw [List.length_take, List.length_drop]; omega) u3]
    have a1 : l.take 24 = l.take 8 ++ (l.drop 8).take 16 := by rw [← List.take_add]
    have a2 : (l.drop 8).take 16 = (l.drop 8).take 8 ++ ((l.drop 8).drop 8).take 8 := by rw [← List.take_add]
    rw [a1, a2, List.drop_drop]
  rw [wrapL, hd, sealL, tk_twice, ← ht, List.take_append_drop, List.take_append_drop]
theorem trip_8 (key : List Nat) (up : Bool) (c s k : Nat) {body : List Nat} (h : U8 body) : U8 (wrapL key up c s k body) := u8_app (headL_8 _ _ _) (u8_app (tkL_8 _ _ h) (tagL_8 _ _ _ _))
end Go.Proofs.YtonkgiiacholeaaDoor
