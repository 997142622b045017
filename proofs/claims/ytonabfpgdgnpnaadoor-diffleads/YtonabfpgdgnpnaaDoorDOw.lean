/- Rows of numbers; a code point's bytes and its rune. -/
import Derived.Test.YtonabfpgdgnpnaaDoorLRu
import Derived.Test.YtonabfpgdgnpnaaDoorRow0
import Derived.Maps.AppendAt
import Derived.Lib.LazyBuf
namespace Go.Proofs.YtonabfpgdgnpnaaDoor
set_option linter.unusedVariables false
set_option linter.unusedSimpArgs false
open Go.ChangeShapes Go.WideShapes Go.ChangeAt Go.RowKit Go.Joins Go.Deep

def nsv (l : List Nat) : List Value := l.map (fun (n : Nat) => .int .i64 (n : Int))
theorem nsv_app (a b : List Nat) : nsv (a ++ b) = nsv a ++ nsv b := by simp [nsv]
theorem nsv_len (l : List Nat) : (nsv l).length = l.length := by simp [nsv]
theorem info64 : ∃ i, Tryd.prog.info? 3 = some i ∧ i.zero = some (.int .i64 0) ∧ i.size = 1 ∧ i.bytes = 8 := info_parts (by kernel_rfl)
theorem own_row {w : World} {B e g : Nat} {xs : List Value} (h : RowAt w g e xs) (hB : B ≤ g) (hm : xs.length ≤ maxLen) : w.ownsRow B e 1 (.slice (some ⟨g, 0, none⟩) xs.length xs.length) xs.length xs :=
  ⟨by simp, .inr ⟨g, xs.length, xs.toArray, rfl, hB, h, Nat.le_refl _, hm, by simp, by simp⟩⟩
theorem own_sl {w : World} {B e n : Nat} {v : Value} {xs : List Value} (h : w.ownsRow B e 1 v n xs) : ∃ a c, v = .slice a n c ∧ n ≤ c ∧ c ≤ maxLen := by
  rcases h.2 with ⟨rfl, h0⟩ | ⟨g, cap, cur, rfl, e2, e3, e4, e5, e6⟩
  · exact ⟨none, 0, by rw [h0], by omega, by unfold maxLen; omega⟩
  · exact ⟨_, _, rfl, e4, e5⟩
theorem own_rd {w : World} {B e n : Nat} {v : Value} {xs : List Value} (h : w.ownsRow B e 1 v n xs) {i : Nat} {u : Value} (hu : xs[i]? = some u) : ∃ g c, v = .slice (some ⟨g, 0, none⟩) n c ∧ w.cell? ⟨g, i, none⟩ = some u ∧ i < n ∧ n ≤ c ∧ c ≤ maxLen := by
  have hlt := (List.getElem?_eq_some_iff.1 hu).1
  rw [h.1, Nat.mul_one] at hlt
  rcases h.2 with ⟨_, h0⟩ | ⟨g, cap, cur, rfl, e2, e3, e4, e5, e6, e7⟩
  · omega
  · refine ⟨g, cap, rfl, ?_, hlt, e4, e5⟩
    have := World.ownsRow.cells h (g := g) rfl i u hu
    simpa [Addr.add_lit] using this
theorem rnv_at {cs : List (List UInt8)} {k : Nat} {c : List UInt8} (h : cs[k]? = some c) : (rnv cs)[k]? = some (.int .i32 (rn c : Int)) := by simp [rnv, h]
theorem own_set {w : World} {B e n g c : Nat} {xs : List Value} (h : w.ownsRow B e 1 (.slice (some ⟨g, 0, none⟩) n c) n xs) (i : Nat) (u : Value) (hi : i < n) : (w.setCell ⟨g, i, none⟩ u).ownsRow B e 1 (.slice (some ⟨g, 0, none⟩) n c) n (xs.set i u) := by
  obtain ⟨h1, h2⟩ := h
  refine ⟨by rw [List.length_set]; exact h1, ?_⟩
  rcases h2 with ⟨h2, _⟩ | ⟨g', cap, cur, e1, e2, e3, e4, e5, e6, e7⟩
  · cases h2
  · cases e1
    refine .inr ⟨g, c, cur.setIfInBounds i u, rfl, e2, ?_, e4, e5, by rw [Array.size_setIfInBounds]; exact e6, ?_⟩
    · rw [heap_setCell_same w g i _ e u e3]
    · rw [Array.toList_setIfInBounds, ← e7, Nat.mul_one, List.take_set]
theorem own_fr {w : World} {B e n g c : Nat} {xs : List Value} (h : w.ownsRow B e 1 (.slice (some ⟨g, 0, none⟩) n c) n xs) (i : Nat) : w.frozen? ⟨g, i, none⟩ = false := by
  rcases h.2 with ⟨h2, _⟩ | ⟨g', cap, cur, e1, e2, e3, _⟩
  · cases h2
  · cases e1
    exact frozen_of_row w g i _ e e3
theorem row_cell {w : World} {B e n g c : Nat} {xs : List Value} (h : w.ownsRow B e 1 (.slice (some ⟨g, 0, none⟩) n c) n xs) {i : Nat} {u : Value} (hu : xs[i]? = some u) : w.cell? ⟨g, i, none⟩ = some u := by
  have := World.ownsRow.cells h (g := g) rfl i u hu
  simpa [Addr.add_lit] using this
theorem enc_eq (r : Int) : Utf8.encode r = ⟨(Lib.encodeRune r).toArray⟩ := by
  unfold Utf8.encode Utf8.valid Lib.encodeRune
  by_cases h1 : r < 0
  · rw [Lib.encodeRuneZ_bad (.inl h1)]
    have : ((decide (0 ≤ r) && decide (r < 55296)) || (decide (57344 ≤ r) && decide (r ≤ 1114111))) = false := by
      simp only [Bool.or_eq_false_iff, Bool.and_eq_false_iff, decide_eq_false_iff_not]; omega
    simp only [this, Bool.false_eq_true, ↓reduceIte, Utf8.runeError]
    rfl
  · by_cases h2 : 1114111 < r
    · rw [Lib.encodeRuneZ_bad (.inr (.inr h2))]
      have : ((decide (0 ≤ r) && decide (r < 55296)) || (decide (57344 ≤ r) && decide (r ≤ 1114111))) = false := by
        simp only [Bool.or_eq_false_iff, Bool.and_eq_false_iff, decide_eq_false_iff_not]; omega
      simp only [this, Bool.false_eq_true, ↓reduceIte, Utf8.runeError]
      rfl
    · by_cases h3 : 55296 ≤ r ∧ r ≤ 57343
      · rw [Lib.encodeRuneZ_bad (.inr (.inl h3))]
        have : ((decide (0 ≤ r) && decide (r < 55296)) || (decide (57344 ≤ r) && decide (r ≤ 1114111))) = false := by
          simp only [Bool.or_eq_false_iff, Bool.and_eq_false_iff, decide_eq_false_iff_not]; omega
        simp only [this, Bool.false_eq_true, ↓reduceIte, Utf8.runeError]
        rfl
      · have : ((decide (0 ≤ r) && decide (r < 55296)) || (decide (57344 ≤ r) && decide (r ≤ 1114111))) = true := by
          simp only [Bool.or_eq_true, Bool.and_eq_true, decide_eq_true_eq]; omega
        simp only [this, if_true]
        obtain ⟨n, rfl⟩ : ∃ n : Nat, r = n := ⟨r.toNat, by omega⟩
        simp only [Int.toNat_natCast]
        by_cases k1 : n < 128
        · rw [Lib.encodeRuneZ_one (by omega) (by omega), if_pos k1]
          rfl
        · rw [if_neg k1]
          by_cases k2 : n < 2048
          · rw [Lib.encodeRuneZ_two (by omega) (by omega), if_pos k2]
            congr 1
          · rw [if_neg k2]
            by_cases k3 : n < 65536
            · rw [Lib.encodeRuneZ_three (by omega), if_pos k3]
              congr 1
            · rw [if_neg k3, Lib.encodeRuneZ_four (by omega) (by omega)]
              congr 1
theorem enc_cp {c : List UInt8} (h : Cp c) : Utf8.encode ((Lib.decodeL c).1 : Int) = ⟨c.toArray⟩ := by
  rw [enc_eq, Lib.encode_decode c h.ne h.ok, h.all, List.take_of_length_le (Nat.le_refl _)]
theorem kept {w w' : World} (hb : Below w.heap.size w w') {p : Addr} {v : Value} (h : w.cell? p = some v) : w'.cell? p = some v := by
  have hlt : p.block < w.heap.size := World.block_lt_of_cell? _ _ h
  rw [hb.cell hlt]
  exact h
theorem rn_inj {c d : List UInt8} (hc : Cp c) (hd : Cp d) (h : rn c = rn d) : c = d := by
  have e1 := enc_cp hc
  have e2 := enc_cp hd
  unfold rn at h
  rw [h, e2] at e1
  have := congrArg (fun b : ByteArray => b.data.toList) e1
  simpa using this.symm
theorem own_sl3 {w : World} {B e k n : Nat} {v : Value} {xs : List Value} (h : w.ownsRow B e k v n xs) : ∃ a c, v = .slice a n c ∧ n ≤ c ∧ c ≤ maxLen := by
  rcases h.2 with ⟨rfl, h0⟩ | ⟨g, cap, cur, rfl, e2, e3, e4, e5, e6⟩
  · exact ⟨none, 0, by rw [h0], by omega, by unfold maxLen; omega⟩
  · exact ⟨_, _, rfl, e4, e5⟩
end Go.Proofs.YtonabfpgdgnpnaaDoor
