/- What only reads an index: Len, Size, made, isLine, end, Line, At. -/
import Derived.Test.YtdnbhomjfgpcfaaDoorLNw
namespace Go.Proofs.YtdnbhomjfgpcfaaDoor
set_option linter.unusedVariables false
set_option linter.unusedSimpArgs false
open Go.ChangeShapes Go.WideShapes Go.ChangeAt Go.RowKit Go.Joins Go.Deep

def NoIx (w : World) (p : Option Addr) : Prop := p = none ∨ ∃ g, p = some ⟨g, 0, none⟩ ∧ w.cell? ⟨g, 0, none⟩ = some (.slice none 0 0) ∧ w.cell? ⟨g, 1, none⟩ = some (.slice none 0 0)
theorem len_nob (p : Option Addr) (w : World) (h : NoIx w p) : Calls Tryd.prog 22 #[.pointer p] w fun r w' => r = .returned (.int .i64 0) ∧ w = w' := by
  rcases h with rfl | ⟨g, rfl, h0, h1⟩
  · go_enter Tryd.func22, Tryd.ntmps22
    go_wp2
    go_ret
    exact ⟨rfl, rfl⟩
  · go_enter Tryd.func22, Tryd.ntmps22
    go_wp2
    go_ret
    exact ⟨rfl, rfl⟩
theorem size_nob (p : Option Addr) (w : World) (h : NoIx w p) : Calls Tryd.prog 24 #[.pointer p] w fun r w' => r = .returned (.int .i64 0) ∧ w = w' := by
  rcases h with rfl | ⟨g, rfl, h0, h1⟩
  · go_enter Tryd.func24, Tryd.ntmps24
    go_wp2
    go_ret
    exact ⟨rfl, rfl⟩
  · go_enter Tryd.func24, Tryd.ntmps24
    go_wp2
    go_ret
    exact ⟨rfl, rfl⟩
theorem made_nob (p : Option Addr) (w : World) (h : NoIx w p) : Calls Tryd.prog 46 #[.pointer p] w fun r w' => r = .returned (.bool false) ∧ w = w' := by
  have K := hide (len_nob p w h)
  clear h
  go_enter Tryd.func46, Tryd.ntmps46
  go_wp2_with fail
  refine Calls.mono (unhide K) ?_
  rintro r w' ⟨rfl, rfl⟩
  go_wp2
  go_ret
  exact ⟨rfl, rfl⟩
theorem line_nob (p : Option Addr) (n m k : Int) (s t : ByteArray) (w : World) (h : NoIx w p) : Calls Tryd.prog 16 #[.pointer p, .int .i64 n] w fun r w' => r = .returned (.tuple #[.string ⟨#[]⟩, .int .i64 6]) ∧ w = w' := by
  have K := hide (made_nob p w h)
  clear h
  go_enter Tryd.func16, Tryd.ntmps16
  go_wp2_with fail
  refine Calls.mono (unhide K) ?_
  rintro r w' ⟨rfl, rfl⟩
  go_wp2_with fail
  go_ret2
  exact ⟨rfl, rfl⟩
theorem at_nob (p : Option Addr) (n m k : Int) (s t : ByteArray) (w : World) (h : NoIx w p) : Calls Tryd.prog 18 #[.pointer p, .int .i64 n, .int .i64 m] w fun r w' => r = .returned (.tuple #[.int .i64 0, .int .i64 6]) ∧ w = w' := by
  have K := hide (made_nob p w h)
  clear h
  go_enter Tryd.func18, Tryd.ntmps18
  go_wp2_with fail
  refine Calls.mono (unhide K) ?_
  rintro r w' ⟨rfl, rfl⟩
  go_wp2_with fail
  go_ret2
  exact ⟨rfl, rfl⟩
theorem where_nob (p : Option Addr) (n m k : Int) (s t : ByteArray) (w : World) (h : NoIx w p) : Calls Tryd.prog 20 #[.pointer p, .int .i64 n] w fun r w' => r = .returned (.tuple #[.int .i64 0, .int .i64 0, .int .i64 6]) ∧ w = w' := by
  have K := hide (made_nob p w h)
  clear h
  go_enter Tryd.func20, Tryd.ntmps20
  go_wp2_with fail
  refine Calls.mono (unhide K) ?_
  rintro r w' ⟨rfl, rfl⟩
  go_wp2_with fail
  go_ret3
  exact ⟨rfl, rfl⟩
theorem word_nob (p : Option Addr) (n m k : Int) (s t : ByteArray) (w : World) (h : NoIx w p) : Calls Tryd.prog 27 #[.pointer p, .int .i64 n] w fun r w' => r = .returned (.tuple #[.int .i64 0, .int .i64 0, .int .i64 6]) ∧ w = w' := by
  have K := hide (made_nob p w h)
  clear h
  go_enter Tryd.func27, Tryd.ntmps27
  go_wp2_with fail
  refine Calls.mono (unhide K) ?_
  rintro r w' ⟨rfl, rfl⟩
  go_wp2_with fail
  go_ret3
  exact ⟨rfl, rfl⟩
theorem find_nob (p : Option Addr) (n m k : Int) (s t : ByteArray) (w : World) (h : NoIx w p) : Calls Tryd.prog 29 #[.pointer p, .string s] w fun r w' => r = .returned (.tuple #[.slice none 0 0, .int .i64 6]) ∧ w = w' := by
  have K := hide (made_nob p w h)
  clear h
  go_enter Tryd.func29, Tryd.ntmps29
  go_wp2_with fail
  refine Calls.mono (unhide K) ?_
  rintro r w' ⟨rfl, rfl⟩
  go_wp2_with fail
  go_ret2
  exact ⟨rfl, rfl⟩
theorem swap_nob (p : Option Addr) (n m k : Int) (s t : ByteArray) (w : World) (h : NoIx w p) : Calls Tryd.prog 32 #[.pointer p, .string s, .string t] w fun r w' => r = .returned (.tuple #[.slice none 0 0, .int .i64 6]) ∧ w = w' := by
  have K := hide (made_nob p w h)
  clear h
  go_enter Tryd.func32, Tryd.ntmps32
  go_wp2_with fail
  refine Calls.mono (unhide K) ?_
  rintro r w' ⟨rfl, rfl⟩
  go_wp2_with fail
  go_ret2
  exact ⟨rfl, rfl⟩
theorem move_nob (p : Option Addr) (n m k : Int) (s t : ByteArray) (w : World) (h : NoIx w p) : Calls Tryd.prog 37 #[.pointer p, .int .i64 n, .int .i64 m, .int .i64 k] w fun r w' => r = .returned (.tuple #[.slice none 0 0, .int .i64 6]) ∧ w = w' := by
  have K := hide (made_nob p w h)
  clear h
  go_enter Tryd.func37, Tryd.ntmps37
  go_wp2_with fail
  refine Calls.mono (unhide K) ?_
  rintro r w' ⟨rfl, rfl⟩
  go_wp2_with fail
  go_ret2
  exact ⟨rfl, rfl⟩
theorem sts_pos (cs : List (List UInt8)) : 0 < (sts cs).length := by simp [sts]
/-- both slices of an index -/
theorem Ix.two {w : World} {B g : Nat} {vr vs : Value} {cs : List (List UInt8)} (h : Ix w B g vr vs cs) : ∃ ar cr as_ c_, vr = .slice ar cs.length cr ∧ vs = .slice as_ (sts cs).length c_ ∧ w.cell? ⟨g, 0, none⟩ = some (.slice ar cs.length cr) ∧ w.cell? ⟨g, 1, none⟩ = some (.slice as_ (sts cs).length c_) := by
  obtain ⟨ar, cr, e1, _⟩ := own_sl h.r
  obtain ⟨as_, c_, e2, _⟩ := own_sl h.s
  have q0 := h.row.cell 0
  have q1 := h.row.cell 1
  rw [e1] at q0
  rw [e2] at q1
  exact ⟨ar, cr, as_, c_, e1, e2, q0, q1⟩
theorem len_ok (g : Nat) (w : World) (a : Option Addr) (n c : Nat) (h : w.cell? ⟨g, 1, none⟩ = some (.slice a n c)) : Calls Tryd.prog 22 #[.pointer (some ⟨g, 0, none⟩)] w fun r w' => r = .returned (.int .i64 (n : Int)) ∧ w = w' := by
  go_enter Tryd.func22, Tryd.ntmps22
  go_wp2
  go_ret
  exact ⟨rfl, rfl⟩
theorem size_ok (g : Nat) (w : World) (a : Option Addr) (n c : Nat) (h : w.cell? ⟨g, 0, none⟩ = some (.slice a n c)) : Calls Tryd.prog 24 #[.pointer (some ⟨g, 0, none⟩)] w fun r w' => r = .returned (.int .i64 (n : Int)) ∧ w = w' := by
  go_enter Tryd.func24, Tryd.ntmps24
  go_wp2
  go_ret
  exact ⟨rfl, rfl⟩
theorem made_ok (g : Nat) (w : World) (a : Option Addr) (n c : Nat) (h : w.cell? ⟨g, 1, none⟩ = some (.slice a n c)) (hn : 0 < n) : Calls Tryd.prog 46 #[.pointer (some ⟨g, 0, none⟩)] w fun r w' => r = .returned (.bool true) ∧ w = w' := by
  have K := hide (len_ok g w a n c h)
  have hn' : (0 : Int) < (n : Int) := by omega
  clear h
  go_enter Tryd.func46, Tryd.ntmps46
  go_wp2_with fail
  refine Calls.mono (unhide K) ?_
  rintro r w' ⟨rfl, rfl⟩
  go_wp2
  go_ret
  exact ⟨by simp [hn], rfl⟩
theorem isLine_ok (g : Nat) (i : Int) (w : World) (a : Option Addr) (n c : Nat) (h : w.cell? ⟨g, 1, none⟩ = some (.slice a n c)) : Calls Tryd.prog 47 #[.pointer (some ⟨g, 0, none⟩), .int .i64 i] w fun r w' => r = .returned (.bool (decide (0 ≤ i ∧ i < (n : Int)))) ∧ w = w' := by
  by_cases h0 : 0 ≤ i
  · by_cases h1 : i < (n : Int)
    · rw [show decide (0 ≤ i ∧ i < (n : Int)) = true by simp [h0, h1]]
      go_enter Tryd.func47, Tryd.ntmps47
      go_wp2_with fail
      go_ret
      exact ⟨by first | rfl | simp [h1] | (simp; omega), rfl⟩
    · rw [show decide (0 ≤ i ∧ i < (n : Int)) = false by simp; omega]
      go_enter Tryd.func47, Tryd.ntmps47
      go_wp2_with fail
      go_ret
      exact ⟨by first | rfl | (simp; done) | (simp; omega), rfl⟩
  · rw [show decide (0 ≤ i ∧ i < (n : Int)) = false by simp; omega]
    go_enter Tryd.func47, Tryd.ntmps47
    go_wp2_with fail
    go_ret
    exact ⟨rfl, rfl⟩
/-- where a line ends -/
def endL (cs : List (List UInt8)) (i : Nat) : Nat := if i + 1 < (sts cs).length then (sts cs).getD (i + 1) 0 - 1 else cs.length
theorem stF_ge : ∀ (a : List (List UInt8)) (i n : Nat), n ∈ stF i a → i + 1 ≤ n ∧ n ≤ i + a.length
  | [], i, n, h => by simp [stF] at h
  | c :: q, i, n, h => by
    rw [stF] at h
    have ih := stF_ge q (i + 1) n
    rw [List.length_cons]
    split at h
    · rcases List.mem_cons.1 h with rfl | h
      · omega
      · have := ih h; omega
    · have := ih h; omega
theorem end_ok {w : World} {B g : Nat} {vr vs : Value} {cs : List (List UInt8)} (h : Ix w B g vr vs cs) {i : Nat} (hi : i < (sts cs).length) (hl : cs.length ≤ 1099511627776) : Calls Tryd.prog 48 #[.pointer (some ⟨g, 0, none⟩), .int .i64 (i : Int)] w fun r w' => r = .returned (.int .i64 (endL cs i : Int)) ∧ w = w' := by
  obtain ⟨ar, cr, as_, c_, e1, e2, q0, q1⟩ := h.two
  have hsl := sts_len cs
  by_cases h1 : i + 1 < (sts cs).length
  · obtain ⟨n, hn⟩ : ∃ n, (sts cs)[i + 1]? = some n := ⟨_, List.getElem?_eq_getElem h1⟩
    obtain ⟨gs, c2, e3, hc, _, hcc, _⟩ := own_rd h.s (u := .int .i64 (n : Int)) (i := i + 1) (by simp [nsv, hn])
    have hn1 : 1 ≤ n := by
      have hm : n ∈ stF 0 cs := by simp only [sts, List.getElem?_cons_succ] at hn; exact List.mem_of_getElem? hn
      exact (by have := (stF_ge cs 0 n hm).1; omega)
    have hn3 : n ≤ 1099511627776 := by
      have hm : n ∈ stF 0 cs := by simp only [sts, List.getElem?_cons_succ] at hn; exact List.mem_of_getElem? hn
      have := (stF_ge cs 0 n hm).2; omega
    have he : (endL cs i : Int) = (n : Int) - 1 := by unfold endL; rw [if_pos h1, List.getD_eq_getElem?_getD, hn]; simp; omega
    rw [e2] at e3
    injection e3 with e3 _ e4
    subst e3 e4
    rw [he]
    obtain ⟨m, hm⟩ : ∃ z, (sts cs).length = z := ⟨_, rfl⟩
    rw [hm] at q1 h1 hcc hsl
    have hlt : (i : Int) + 1 < (m : Int) := by omega
    have i0 : (0 : Int) ≤ (i : Int) + 1 := by omega
    clear he hn e1 e2 h hi
    go_enter Tryd.func48, Tryd.ntmps48
    go_wp2_with fail
    go_ret
    exact ⟨rfl, rfl⟩
  · have he : (endL cs i : Int) = (cs.length : Int) := by unfold endL; rw [if_neg h1]
    rw [he]
    obtain ⟨m, hm⟩ : ∃ z, (sts cs).length = z := ⟨_, rfl⟩
    rw [hm] at q1 h1 hsl
    have hlt : ¬ (i : Int) + 1 < (m : Int) := by omega
    have i1 : (i : Int) + 1 ≤ 1099511627777 := by omega
    clear he e1 e2 h hi
    go_enter Tryd.func48, Tryd.ntmps48
    go_wp2_with fail
    go_ret
    exact ⟨rfl, rfl⟩
end Go.Proofs.YtdnbhomjfgpcfaaDoor
