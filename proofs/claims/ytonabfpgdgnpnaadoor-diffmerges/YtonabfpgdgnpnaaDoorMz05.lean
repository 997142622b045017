/- Parts of the walk: DA. -/
import Derived.Test.YtonabfpgdgnpnaaDoorMz04
import Derived.Maps.AppendAt
import Derived.Lib.LazyBuf
import Derived.Test.YtonabfpgdgnpnaaDoorMz02
namespace Go.Proofs.YtonabfpgdgnpnaaDoor
set_option linter.unusedVariables false
set_option linter.unusedSimpArgs false
open Go.ChangeShapes Go.WideShapes Go.ChangeAt Go.RowKit Go.Joins Go.Deep

def nsv (l : List Nat) : List Value := l.map (fun (n : Nat) => .int .i64 (n : Int))
theorem nsv_app (a b : List Nat) : nsv (a ++ b) = nsv a ++ nsv b := by simp [nsv]
theorem nsv_len (l : List Nat) : (nsv l).length = l.length := by simp [nsv]
theorem info64 : ∃ i, Tryd.prog.info? 3 = some i ∧ i.zero = some (.int .i64 0) ∧ i.size = 1 ∧ i.bytes = 8 := info_parts (by kernel_rfl)
theorem own_row {w : World} {B e g : Nat} {xs : List Value} (h : RowAt w g e xs) (hB : B ≤ g) (hm : xs.length ≤ maxLen) : w.ownsRow B e 1 (.slice (some ⟨g, 0, none⟩) xs.length xs.length) xs.length xs :=
  ⟨by simp, .inr ⟨g, xs.length, xs.toArray, rfl, hB, h, Nat.le_refl _, hm, by simp, by simp⟩⟩
theorem own_sl {w : World} {B e n : Nat} {v : Value} {xs : List Value} (h : w.ownsRow B e 1 v n xs) : ∃ a c, v = .slice a n c ∧ n ≤ c ∧ c ≤ maxLen := by
  rcases h.2 with ⟨rfl, h0⟩ | ⟨g, cap, cur, rfl, e2, e3, e4, e5, e6⟩
  · exact ⟨none, 0, by rw [h0], by omega, by unfold maxLen; omega⟩
  · exact ⟨_, _, rfl, e4, e5⟩
theorem own_rd {w : World} {B e n : Nat} {v : Value} {xs : List Value} (h : w.ownsRow B e 1 v n xs) {i : Nat} {u : Value} (hu : xs[i]? = some u) : ∃ g c, v = .slice (some ⟨g, 0, none⟩) n c ∧ w.cell? ⟨g, i, none⟩ = some u ∧ i < n ∧ n ≤ c ∧ c ≤ maxLen := by
  have hlt := (List.getElem?_eq_some_iff.1 hu).1
  rw [h.1, Nat.mul_one] at hlt
  rcases h.2 with ⟨_, h0⟩ | ⟨g, cap, cur, rfl, e2, e3, e4, e5, e6, e7⟩
  · omega
  · refine ⟨g, cap, rfl, ?_, hlt, e4, e5⟩
    have := World.ownsRow.cells h (g := g) rfl i u hu
    simpa [Addr.add_lit] using this
theorem rnv_at {cs : List (List UInt8)} {k : Nat} {c : List UInt8} (h : cs[k]? = some c) : (rnv cs)[k]? = some (.int .i32 (rn c : Int)) := by simp [rnv, h]
theorem own_set {w : World} {B e n g c : Nat} {xs : List Value} (h : w.ownsRow B e 1 (.slice (some ⟨g, 0, none⟩) n c) n xs) (i : Nat) (u : Value) (hi : i < n) : (w.setCell ⟨g, i, none⟩ u).ownsRow B e 1 (.slice (some ⟨g, 0, none⟩) n c) n (xs.set i u) := by
  obtain ⟨h1, h2⟩ := h
  refine ⟨by rw [List.length_set]; exact h1, ?_⟩
  rcases h2 with ⟨h2, _⟩ | ⟨g', cap, cur, e1, e2, e3, e4, e5, e6, e7⟩
  · cases h2
  · cases e1
    refine .inr ⟨g, c, cur.setIfInBounds i u, rfl, e2, ?_, e4, e5, by rw [Array.size_setIfInBounds]; exact e6, ?_⟩
    · rw [heap_setCell_same w g i _ e u e3]
    · rw [Array.toList_setIfInBounds, ← e7, Nat.mul_one, List.take_set]
theorem own_fr {w : World} {B e n g c : Nat} {xs : List Value} (h : w.ownsRow B e 1 (.slice (some ⟨g, 0, none⟩) n c) n xs) (i : Nat) : w.frozen? ⟨g, i, none⟩ = false := by
  rcases h.2 with ⟨h2, _⟩ | ⟨g', cap, cur, e1, e2, e3, _⟩
  · cases h2
  · cases e1
    exact frozen_of_row w g i _ e e3
theorem row_cell {w : World} {B e n g c : Nat} {xs : List Value} (h : w.ownsRow B e 1 (.slice (some ⟨g, 0, none⟩) n c) n xs) {i : Nat} {u : Value} (hu : xs[i]? = some u) : w.cell? ⟨g, i, none⟩ = some u := by
  have := World.ownsRow.cells h (g := g) rfl i u hu
  simpa [Addr.add_lit] using this
theorem enc_eq (r : Int) : Utf8.encode r = ⟨(Lib.encodeRune r).toArray⟩ := by
  unfold Utf8.encode Utf8.valid Lib.encodeRune
  by_cases h1 : r < 0
  · rw [Lib.encodeRuneZ_bad (.inl h1)]
    have : ((decide (0 ≤ r) && decide (r < 55296)) || (decide (57344 ≤ r) && decide (r ≤ 1114111))) = false := by
      simp only [Bool.or_eq_false_iff, Bool.and_eq_false_iff, decide_eq_false_iff_not]; omega
    simp only [this, Bool.false_eq_true, ↓reduceIte, Utf8.runeError]
    rfl
  · by_cases h2 : 1114111 < r
    · rw [Lib.encodeRuneZ_bad (.inr (.inr h2))]
      have : ((decide (0 ≤ r) && decide (r < 55296)) || (decide (57344 ≤ r) && decide (r ≤ 1114111))) = false := by
        simp only [Bool.or_eq_false_iff, Bool.and_eq_false_iff, decide_eq_false_iff_not]; omega
      simp only [this, Bool.false_eq_true, ↓reduceIte, Utf8.runeError]
      rfl
    · by_cases h3 : 55296 ≤ r ∧ r ≤ 57343
      · rw [Lib.encodeRuneZ_bad (.inr (.inl h3))]
        have : ((decide (0 ≤ r) && decide (r < 55296)) || (decide (57344 ≤ r) && decide (r ≤ 1114111))) = false := by
          simp only [Bool.or_eq_false_iff, Bool.and_eq_false_iff, decide_eq_false_iff_not]; omega
        simp only [this, Bool.false_eq_true, ↓reduceIte, Utf8.runeError]
        rfl
      · have : ((decide (0 ≤ r) && decide (r < 55296)) || (decide (57344 ≤ r) && decide (r ≤ 1114111))) = true := by
          simp only [Bool.or_eq_true, Bool.and_eq_true, decide_eq_true_eq]; omega
        simp only [this, if_true]
        obtain ⟨n, rfl⟩ : ∃ n : Nat, r = n := ⟨r.toNat, by omega⟩
        simp only [Int.toNat_natCast]
        by_cases k1 : n < 128
        · rw [Lib.encodeRuneZ_one (by omega) (by omega), if_pos k1]
          rfl
        · rw [if_neg k1]
          by_cases k2 : n < 2048
          · rw [Lib.encodeRuneZ_two (by omega) (by omega), if_pos k2]
            congr 1
          · rw [if_neg k2]
            by_cases k3 : n < 65536
            · rw [Lib.encodeRuneZ_three (by omega), if_pos k3]
              congr 1
            · rw [if_neg k3, Lib.encodeRuneZ_four (by omega) (by omega)]
              congr 1
theorem enc_cp {c : List UInt8} (h : Cp c) : Utf8.encode ((Lib.decodeL c).1 : Int) = ⟨c.toArray⟩ := by
  rw [enc_eq, Lib.encode_decode c h.ne h.ok, h.all, List.take_of_length_le (Nat.le_refl _)]
theorem kept {w w' : World} (hb : Below w.heap.size w w') {p : Addr} {v : Value} (h : w.cell? p = some v) : w'.cell? p = some v := by
  have hlt : p.block < w.heap.size := World.block_lt_of_cell? _ _ h
  rw [hb.cell hlt]
  exact h
theorem rn_inj {c d : List UInt8} (hc : Cp c) (hd : Cp d) (h : rn c = rn d) : c = d := by
  have e1 := enc_cp hc
  have e2 := enc_cp hd
  unfold rn at h
  rw [h, e2] at e1
  have := congrArg (fun b : ByteArray => b.data.toList) e1
  simpa using this.symm
theorem own_sl3 {w : World} {B e k n : Nat} {v : Value} {xs : List Value} (h : w.ownsRow B e k v n xs) : ∃ a c, v = .slice a n c ∧ n ≤ c ∧ c ≤ maxLen := by
  rcases h.2 with ⟨rfl, h0⟩ | ⟨g, cap, cur, rfl, e2, e3, e4, e5, e6⟩
  · exact ⟨none, 0, by rw [h0], by omega, by unfold maxLen; omega⟩
  · exact ⟨_, _, rfl, e4, e5⟩
end Go.Proofs.YtonabfpgdgnpnaaDoor

namespace Go.Proofs.YtonabfpgdgnpnaaDoor
set_option linter.unusedVariables false
set_option linter.unusedSimpArgs false

abbrev CP := List UInt8
def lcs : List CP → List CP → Nat
  | [], _ => 0
  | _ :: _, [] => 0
  | c :: x, d :: y => if c = d then lcs x y + 1 else max (lcs x (d :: y)) (lcs (c :: x) y)
termination_by x y => x.length + y.length
theorem lcs_nil_left (y : List CP) : lcs [] y = 0 := by rw [lcs]
theorem lcs_nil_right : ∀ x : List CP, lcs x [] = 0
  | [] => by rw [lcs]
  | _ :: _ => by rw [lcs]
theorem lcs_eq {c : CP} (x y : List CP) : lcs (c :: x) (c :: y) = lcs x y + 1 := by rw [lcs, if_pos rfl]
theorem lcs_ne {c d : CP} (h : c ≠ d) (x y : List CP) : lcs (c :: x) (d :: y) = max (lcs x (d :: y)) (lcs (c :: x) y) := by rw [lcs, if_neg h]
theorem lcs_grow : ∀ (n : Nat) (x y : List CP), x.length + y.length ≤ n → (∀ c, lcs x y ≤ lcs (c :: x) y ∧ lcs (c :: x) y ≤ lcs x y + 1) ∧ (∀ d, lcs x y ≤ lcs x (d :: y) ∧ lcs x (d :: y) ≤ lcs x y + 1)
  | n, [], [], _ => by
    refine ⟨fun c => ?_, fun c => ?_⟩
    · rw [lcs_nil_right, lcs_nil_right]; omega
    · rw [lcs_nil_left, lcs_nil_left]; omega
  | 0, [], _ :: _, h => by simp at h
  | 0, _ :: _, _, h => by simp at h
  | n + 1, x, y, h => by
    have left : ∀ c, lcs x y ≤ lcs (c :: x) y ∧ lcs (c :: x) y ≤ lcs x y + 1 := fun c => by
      cases y with
      | nil => rw [lcs_nil_right, lcs_nil_right]; omega
      | cons d y =>
        have ih := lcs_grow n x y (by rw [List.length_cons] at h; omega)
        have r := ih.2 d
        have l := ih.1 c
        by_cases e : c = d
        · subst e
          rw [lcs_eq]
          omega
        · rw [lcs_ne e]
          omega
    have right : ∀ d, lcs x y ≤ lcs x (d :: y) ∧ lcs x (d :: y) ≤ lcs x y + 1 := fun d => by
      cases x with
      | nil => rw [lcs_nil_left, lcs_nil_left]; omega
      | cons c x =>
        have ih := lcs_grow n x y (by rw [List.length_cons] at h; omega)
        have r := ih.2 d
        have l := ih.1 c
        by_cases e : c = d
        · subst e
          rw [lcs_eq]
          omega
        · rw [lcs_ne e]
          omega
    exact ⟨left, right⟩
theorem lcs_left (c : CP) (x y : List CP) : lcs x y ≤ lcs (c :: x) y ∧ lcs (c :: x) y ≤ lcs x y + 1 := (lcs_grow _ x y (Nat.le_refl _)).1 c
theorem lcs_right (d : CP) (x y : List CP) : lcs x y ≤ lcs x (d :: y) ∧ lcs x (d :: y) ≤ lcs x y + 1 := (lcs_grow _ x y (Nat.le_refl _)).2 d
theorem lcs_symm : ∀ (n : Nat) (x y : List CP), x.length + y.length ≤ n → lcs x y = lcs y x
  | _, [], y, _ => by rw [lcs_nil_left, lcs_nil_right]
  | _, _ :: _, [], _ => by rw [lcs_nil_left, lcs_nil_right]
  | 0, _ :: _, _ :: _, h => by simp at h
  | n + 1, c :: x, d :: y, h => by
    rw [List.length_cons, List.length_cons] at h
    by_cases e : c = d
    · subst e
      rw [lcs_eq, lcs_eq, lcs_symm n x y (by omega)]
    · rw [lcs_ne e, lcs_ne (Ne.symm e), lcs_symm n x (d :: y) (by rw [List.length_cons]; omega), lcs_symm n (c :: x) y (by rw [List.length_cons]; omega)]
      omega
theorem lcs_le : ∀ (n : Nat) (x y : List CP), x.length + y.length ≤ n → lcs x y ≤ x.length ∧ lcs x y ≤ y.length
  | _, [], y, _ => by rw [lcs_nil_left]; omega
  | _, _ :: _, [], _ => by rw [lcs_nil_right]; omega
  | 0, _ :: _, _ :: _, h => by simp at h
  | n + 1, c :: x, d :: y, h => by
    rw [List.length_cons, List.length_cons] at h ⊢
    by_cases e : c = d
    · subst e
      have := lcs_le n x y (by omega)
      rw [lcs_eq]
      omega
    · have h1 := lcs_le n x (d :: y) (by rw [List.length_cons]; omega)
      have h2 := lcs_le n (c :: x) y (by rw [List.length_cons]; omega)
      rw [List.length_cons] at h1 h2
      rw [lcs_ne e]
      omega
/-- the edit, one code point at a time -/
def leadA : List CP → List CP → List At
  | [], [] => []
  | [], d :: y => .p d :: leadA [] y
  | _ :: x, [] => .d :: leadA x []
  | c :: x, d :: y => if c = d then .k :: leadA x y else if lcs (c :: x) y ≤ lcs x (d :: y) then .d :: leadA x (d :: y) else .p d :: leadA (c :: x) y
termination_by x y => x.length + y.length
structure LeadOk (x y : List CP) (e : List At) : Prop where
  frm : At.fromN e = x.length
  to_ : At.toN e = y.length
  app : At.app e x = y
  drops : At.dropsN e + lcs x y = x.length
  puts : At.putsN e + lcs x y = y.length
theorem lead_ok : ∀ (n : Nat) (x y : List CP), x.length + y.length ≤ n → LeadOk x y (leadA x y)
  | _, [], [], _ => by rw [leadA]; exact ⟨rfl, rfl, rfl, by rw [lcs_nil_left]; rfl, by rw [lcs_nil_left]; rfl⟩
  | 0, [], _ :: _, h => by simp at h
  | 0, _ :: _, _, h => by simp at h
  | n + 1, [], d :: y, h => by
    rw [List.length_cons] at h
    have ih := lead_ok n [] y (by omega)
    have i4 := ih.drops
    have i5 := ih.puts
    rw [lcs_nil_left] at i4 i5
    rw [leadA]
    exact ⟨by simp only [At.fromN]; exact ih.frm, by simp only [At.toN, List.length_cons]; rw [ih.to_], by simp only [At.app]; rw [ih.app], by rw [lcs_nil_left]; simp only [At.dropsN]; omega, by rw [lcs_nil_left]; simp only [At.putsN, List.length_cons]; omega⟩
  | n + 1, c :: x, [], h => by
    rw [List.length_cons] at h
    have ih := lead_ok n x [] (by omega)
    have i4 := ih.drops
    have i5 := ih.puts
    rw [lcs_nil_right] at i4 i5
    rw [leadA]
    exact ⟨by simp only [At.fromN, List.length_cons]; rw [ih.frm], by simp only [At.toN]; exact ih.to_, by simp only [At.app]; rw [ih.app], by rw [lcs_nil_right]; simp only [At.dropsN, List.length_cons]; omega, by rw [lcs_nil_right]; simp only [At.putsN]; omega⟩
  | n + 1, c :: x, d :: y, h => by
    rw [List.length_cons, List.length_cons] at h
    by_cases e : c = d
    · subst e
      have ih := lead_ok n x y (by omega)
      have i4 := ih.drops
      have i5 := ih.puts
      rw [leadA, if_pos rfl]
      exact ⟨by simp only [At.fromN, List.length_cons]; rw [ih.frm], by simp only [At.toN, List.length_cons]; rw [ih.to_], by simp only [At.app]; rw [ih.app], by rw [lcs_eq]; simp only [At.dropsN, List.length_cons]; omega, by rw [lcs_eq]; simp only [At.putsN, List.length_cons]; omega⟩
    · have hl := lcs_ne e x y
      by_cases g : lcs (c :: x) y ≤ lcs x (d :: y)
      · have ih := lead_ok n x (d :: y) (by rw [List.length_cons]; omega)
        have i4 := ih.drops
        have i5 := ih.puts
        rw [leadA, if_neg e, if_pos g]
        exact ⟨by simp only [At.fromN, List.length_cons]; rw [ih.frm], by simp only [At.toN]; exact ih.to_, by simp only [At.app]; rw [ih.app], by rw [hl]; simp only [At.dropsN, List.length_cons]; omega, by rw [hl]; simp only [At.putsN]; omega⟩
      · have ih := lead_ok n (c :: x) y (by rw [List.length_cons]; omega)
        have i4 := ih.drops
        have i5 := ih.puts
        rw [leadA, if_neg e, if_neg g]
        exact ⟨by simp only [At.fromN]; exact ih.frm, by simp only [At.toN, List.length_cons]; rw [ih.to_], by simp only [At.app]; rw [ih.app], by rw [hl]; simp only [At.dropsN]; omega, by rw [hl]; simp only [At.putsN, List.length_cons]; omega⟩
theorem lead_is (x y : List CP) : LeadOk x y (leadA x y) := lead_ok _ x y (Nat.le_refl _)
/-- no edit of x keeps more -/
theorem keeps_most : ∀ (e : List At) (x : List CP), At.fromN e = x.length → x.length ≤ At.dropsN e + lcs x (At.app e x)
  | [], x, h => by simp [At.fromN] at h; simp [← h]
  | .p c :: e, x, h => by
    have ih := keeps_most e x (by simpa [At.fromN] using h)
    simp only [At.app, At.dropsN]
    have := lcs_right c x (At.app e x)
    omega
  | .k :: e, [], h => by simp [At.fromN] at h
  | .k :: e, c :: x, h => by
    have ih := keeps_most e x (by simpa [At.fromN] using h)
    simp only [At.app, At.dropsN, List.length_cons]
    rw [lcs_eq]
    omega
  | .d :: e, [], h => by simp [At.fromN] at h
  | .d :: e, c :: x, h => by
    have ih := keeps_most e x (by simpa [At.fromN] using h)
    simp only [At.app, At.dropsN, List.length_cons]
    have := lcs_left c x (At.app e x)
    omega
theorem from_to (e : List At) : At.fromN e + At.putsN e = At.toN e + At.dropsN e := by
  induction e with
  | nil => rfl
  | cons s e ih => cases s <;> simp only [At.fromN, At.putsN, At.toN, At.dropsN] <;> omega
/-- of all edits that make the same, the lead drops and puts least -/
theorem lead_short {e : List At} {x : List CP} (h : At.fromN e = x.length) : At.dropsN (leadA x (At.app e x)) ≤ At.dropsN e ∧ At.putsN (leadA x (At.app e x)) ≤ At.putsN e := by
  have h1 := keeps_most e x h
  have l := lead_is x (At.app e x)
  have l4 := l.drops
  have f1 := from_to e
  have f2 := from_to (leadA x (At.app e x))
  rw [l.frm, l.to_] at f2
  have hl : (At.app e x).length = At.toN e := At.app_len e x h.symm
  omega
theorem lead_same : ∀ x : List CP, leadA x x = List.replicate x.length .k
  | [] => by rw [leadA]; rfl
  | c :: x => by rw [leadA, if_pos rfl, lead_same x]; rfl
/-- the lead changes nothing just where the texts are the same -/
theorem lead_none {x y : List CP} (h : leadA x y = List.replicate x.length .k) : x = y := by
  have l := lead_is x y
  rw [h] at l
  have h2 := l.app
  have : ∀ z : List CP, At.app (List.replicate z.length .k) z = z := fun z => by
    induction z with
    | nil => rfl
    | cons c z ih => rw [List.length_cons, List.replicate_succ]; simp only [At.app]; rw [ih]
  rw [this] at h2
  exact h2
end Go.Proofs.YtonabfpgdgnpnaaDoor

namespace Go.Proofs.YtonabfpgdgnpnaaDoor
set_option linter.unusedVariables false
set_option linter.unusedSimpArgs false
open Go.ChangeShapes Go.WideShapes Go.ChangeAt Go.RowKit Go.Joins Go.Deep

def u16v (l : List Nat) : List Value := l.map (fun (n : Nat) => .int .u16 (n : Int))
theorem u16v_len (l : List Nat) : (u16v l).length = l.length := by simp [u16v]
theorem u16v_set (l : List Nat) (i n : Nat) : (u16v l).set i (.int .u16 (n : Int)) = u16v (l.set i n) := by simp [u16v, List.map_set]
theorem u16v_rep (n : Nat) : u16v (List.replicate n 0) = List.replicate n (.int .u16 0) := by simp [u16v]
/-- two texts' runes, and numbers, in memory -/
structure Tb (w : World) (Ba Bb Bm : Nat) (va vb vm : Value) (x y : List CP) (M : List Nat) : Prop where
  a : w.ownsRow Ba 21 1 va x.length (rnv x)
  b : w.ownsRow Bb 21 1 vb y.length (rnv y)
  m : w.ownsRow Bm 95 1 vm M.length (u16v M)
  cx : Cps x
  cy : Cps y
  len : M.length = (x.length + 1) * (y.length + 1)
  nx : x.length ≤ 1024
  ny : y.length ≤ 1024
theorem Tb.call {w w' : World} {Ba Bb Bm : Nat} {va vb vm : Value} {x y : List CP} {M : List Nat} (h : Tb w Ba Bb Bm va vb vm x y M) (hb : Below w.heap.size w w') : Tb w' Ba Bb Bm va vb vm x y M := ⟨own_call h.a hb, own_call h.b hb, own_call h.m hb, h.cx, h.cy, h.len, h.nx, h.ny⟩
theorem place_lt {i j n m : Nat} (hi : i ≤ n) (hj : j ≤ m) : i * (m + 1) + j < (n + 1) * (m + 1) := by
  have := Nat.mul_le_mul_right (m + 1) hi
  rw [Nat.add_mul]
  omega
theorem place_inj {i j i' j' m : Nat} (hj : j ≤ m) (hj' : j' ≤ m) (h : i * (m + 1) + j = i' * (m + 1) + j') : i = i' ∧ j = j' := by
  have e1 : (i * (m + 1) + j) / (m + 1) = i := by rw [Nat.mul_comm, Nat.mul_add_div (by omega), Nat.div_eq_of_lt (by omega)]; omega
  have e2 : (i' * (m + 1) + j') / (m + 1) = i' := by rw [Nat.mul_comm, Nat.mul_add_div (by omega), Nat.div_eq_of_lt (by omega)]; omega
  have : i = i' := by rw [← e1, ← e2, h]
  subst this
  exact ⟨rfl, by omega⟩
theorem place_small {i j m : Nat} (hi : i ≤ 1025) (hj : j ≤ 1025) (hm : m ≤ 1024) : i * (m + 1) + j ≤ 1100000 := by
  have := Nat.mul_le_mul hi (show m + 1 ≤ 1025 by omega)
  omega
set_option maxRecDepth 100000 in
set_option maxHeartbeats 4000000 in
theorem place_any (va vm : Value) (ab : Option Addr) (nb cb i j : Nat) (w : World) (hi : i ≤ 1025) (hj : j ≤ 1025) (hn : nb ≤ 1024) :
    Calls Tryd.prog 57 #[.agg #[va, .slice ab nb cb, vm], .int .i64 (i : Int), .int .i64 (j : Int)] w fun r w' => r = .returned (.int .i64 ((i * (nb + 1) + j : Nat) : Int)) ∧ Below w.heap.size w w' := by
  have hp := place_small hi hj hn
  obtain ⟨P, hP⟩ : ∃ z, i * (nb + 1) + j = z := ⟨_, rfl⟩
  obtain ⟨Q, hQ⟩ : ∃ z, i * (nb + 1) = z := ⟨_, rfl⟩
  rw [hP] at hp ⊢
  rw [hQ] at hP
  have hmul : (i : Int) * ((nb : Int) + 1) = (Q : Int) := by rw [← hQ]; simp
  have hPI : (P : Int) = (Q : Int) + (j : Int) := by omega
  rw [hPI]
  have hQI : (Q : Int) ≤ 1100000 := by omega
  have hB : Below w.heap.size w (w.alloc (.cells #[va, .slice ab nb cb, vm] 63)) := (Below.refl _ _).alloc (Nat.le_refl _) _
  have hc := (RowAt.new w 63 [va, .slice ab nb cb, vm]).cell 1
  have HB := hide hB
  clear hB hP hQ hp hPI
  go_enter Tryd.func57, Tryd.ntmps57
  go_wp2_with fail
  go_ret
  exact ⟨by first | rfl | simp, unhide HB⟩
end Go.Proofs.YtonabfpgdgnpnaaDoor

namespace Go.Proofs.YtonabfpgdgnpnaaDoor
set_option linter.unusedVariables false
set_option linter.unusedSimpArgs false
open Go.ChangeShapes Go.WideShapes Go.ChangeAt Go.RowKit Go.Joins Go.Deep

theorem Tb.parts {w : World} {Ba Bb Bm : Nat} {va vb vm : Value} {x y : List CP} {M : List Nat} (h : Tb w Ba Bb Bm va vb vm x y M) : ∃ aa ca ab cb gm cm, va = .slice aa x.length ca ∧ vb = .slice ab y.length cb ∧ vm = .slice (some ⟨gm, 0, none⟩) M.length cm ∧ x.length ≤ ca ∧ ca ≤ maxLen ∧ y.length ≤ cb ∧ cb ≤ maxLen ∧ M.length ≤ cm ∧ cm ≤ maxLen := by
  obtain ⟨aa, ca, rfl, h1, h2⟩ := own_sl h.a
  obtain ⟨ab, cb, rfl, h3, h4⟩ := own_sl h.b
  have hpos : 0 < M.length := by rw [h.len]; exact Nat.mul_pos (by omega) (by omega)
  obtain ⟨gm, cm, e, _, _, h5, h6⟩ := own_rd h.m (i := 0) (u := .int .u16 (M[0] : Int)) (by simp [u16v, List.getElem?_eq_getElem hpos])
  exact ⟨aa, ca, ab, cb, gm, cm, rfl, rfl, e, h1, h2, h3, h4, h5, h6⟩
theorem Tb.at_ {w : World} {Ba Bb Bm gm n cm : Nat} {va vb : Value} {x y : List CP} {M : List Nat} (h : Tb w Ba Bb Bm va vb (.slice (some ⟨gm, 0, none⟩) n cm) x y M) {p m : Nat} (hm : M[p]? = some m) : w.cell? ⟨gm, p, none⟩ = some (.int .u16 (m : Int)) := by
  obtain ⟨g, c, e, hc, _⟩ := own_rd h.m (i := p) (u := .int .u16 (m : Int)) (by simp [u16v, hm])
  injection e with e1 _ e3
  injection e1 with e1
  injection e1 with e1 _ _
  subst e1
  exact hc
set_option maxRecDepth 100000 in
set_option maxHeartbeats 4000000 in
theorem kept_any {w : World} {Ba Bb Bm : Nat} {va vb vm : Value} {x y : List CP} {M : List Nat} (h : Tb w Ba Bb Bm va vb vm x y M) {i j m : Nat} (hi : i ≤ x.length) (hj : j ≤ y.length) (hm : M[i * (y.length + 1) + j]? = some m) (hm16 : m ≤ 65535) :
    Calls Tryd.prog 36 #[.agg #[va, vb, vm], .int .i64 (i : Int), .int .i64 (j : Int)] w fun r w' => r = .returned (.int .i64 (m : Int)) ∧ Below w.heap.size w w' := by
  obtain ⟨aa, ca, ab, cb, gm, cm, rfl, rfl, rfl, hca, hca2, hcb, hcb2, hcm, hcm2⟩ := h.parts
  have hnx := h.nx
  have hny := h.ny
  have hlen := h.len
  have KP := hide (fun W => place_any (.slice aa x.length ca) (.slice (some ⟨gm, 0, none⟩) M.length cm) ab y.length cb i j W (by omega) (by omega) hny)
  have hPl := (List.getElem?_eq_some_iff.1 hm).1
  have hcm' := h.at_ hm
  have hPs := place_small (i := i) (j := j) (m := y.length) (by omega) (by omega) hny
  obtain ⟨P, hP⟩ : ∃ z, i * (y.length + 1) + j = z := ⟨_, rfl⟩
  rw [hP] at KP hPl hcm' hPs
  have hcm := hcm'
  clear hcm' hm h hlen hP
  obtain ⟨na, hna⟩ : ∃ z, x.length = z := ⟨_, rfl⟩
  obtain ⟨nb, hnb⟩ : ∃ z, y.length = z := ⟨_, rfl⟩
  obtain ⟨nm, hnm⟩ : ∃ z, M.length = z := ⟨_, rfl⟩
  rw [hna] at KP hca ⊢
  rw [hnb] at KP hcb ⊢
  rw [hnm] at KP hPl ⊢
  clear hna hnb hnm hi hj hnx hny
  have hcm := hcm
  have hb0 : Below w.heap.size w (w.alloc (.cells #[.slice aa na ca, .slice ab nb cb, .slice (some ⟨gm, 0, none⟩) nm cm] 63)) := (Below.refl _ _).alloc (Nat.le_refl _) _
  have hr0 := RowAt.new w 63 [.slice aa na ca, .slice ab nb cb, .slice (some ⟨gm, 0, none⟩) nm cm]
  have HS : Hid (∀ W, Below (w.alloc (.cells #[.slice aa na ca, .slice ab nb cb, .slice (some ⟨gm, 0, none⟩) nm cm] 63)).heap.size (w.alloc (.cells #[.slice aa na ca, .slice ab nb cb, .slice (some ⟨gm, 0, none⟩) nm cm] 63)) W → W.cell? ⟨w.heap.size, 0, none⟩ = some (.slice aa na ca) ∧ W.cell? ⟨w.heap.size, 1, none⟩ = some (.slice ab nb cb) ∧ W.cell? ⟨w.heap.size, 2, none⟩ = some (.slice (some ⟨gm, 0, none⟩) nm cm) ∧ W.cell? ⟨gm, P, none⟩ = some (.int .u16 (m : Int))) := hide (fun W hW => ⟨kept hW (hr0.cell 0), kept hW (hr0.cell 1), kept hW (hr0.cell 2), kept hW (kept hb0 hcm)⟩)
  have HB := hide hb0
  clear hr0 hb0
  clear hcm
  have hP0 : (0 : Int) ≤ (P : Int) := by omega
  have hP1 : (P : Int) < (nm : Int) := by omega
  go_enter Tryd.func36, Tryd.ntmps36
  go_wp2_with fail
  obtain ⟨wA, hA⟩ : ∃ wA, (w.alloc (.cells #[.slice aa na ca, .slice ab nb cb, .slice (some ⟨gm, 0, none⟩) nm cm] 63)) = wA := ⟨_, rfl⟩
  rw [hA] at HS HB ⊢
  clear hA
  have k0 : Below wA.heap.size wA wA.drew := (Below.refl _ _).drew
  go_region_held3 (fun W => W.cell? ⟨w.heap.size, 0, none⟩ = some (.slice aa na ca) ∧ W.cell? ⟨w.heap.size, 1, none⟩ = some (.slice ab nb cb) ∧ W.cell? ⟨w.heap.size, 2, none⟩ = some (.slice (some ⟨gm, 0, none⟩) nm cm) ∧ W.cell? ⟨gm, P, none⟩ = some (.int .u16 (m : Int)))
    (first | exact unhide HS _ k0 | exact unhide HS _ k1)
    (first | (go_at_call 57; refine Calls.mono (unhide KP wA.drew) ?_; rintro e w2 ⟨rfl, b2⟩; have k1 : Below wA.heap.size wA w2 := k0.trans (b2.mono k0.size)))
  have HB3 := hide ((unhide HB).trans (k1.mono (unhide HB).size))
  clear k0 k1 b2 HS KP
  go_wp2_with fail
  go_ret
  exact ⟨by first | rfl | (simp; done) | (simp; rw [IntKind.wrap_i64]; omega), unhide HB3⟩
end Go.Proofs.YtonabfpgdgnpnaaDoor

namespace Go.Proofs.YtonabfpgdgnpnaaDoor
set_option linter.unusedVariables false
set_option linter.unusedSimpArgs false
open Go.ChangeShapes Go.WideShapes Go.ChangeAt Go.RowKit Go.Joins Go.Deep

def sameB (x y : List CP) (i j : Nat) : Bool := match x[i]?, y[j]? with
  | some c, some d => decide (c = d)
  | _, _ => false
theorem rn_eq {c d : List UInt8} (hc : Cp c) (hd : Cp d) : ((rn c : Int) == (rn d : Int)) = decide (c = d) := by
  by_cases h : c = d
  · subst h
    simp
  · have : ¬ rn c = rn d := fun e => h (rn_inj hc hd e)
    simp only [h, decide_false]
    simp
    omega
/-- all of the table stands -/
def TF (x y : List CP) (M : List Nat) : Prop := ∀ i j, i ≤ x.length → j ≤ y.length → M[i * (y.length + 1) + j]? = some (lcs (x.drop i) (y.drop j))
theorem lcs_small {x y : List CP} (h : x.length ≤ 1024) (i j : Nat) : lcs (x.drop i) (y.drop j) ≤ 1024 := by
  have := (lcs_le _ (x.drop i) (y.drop j) (Nat.le_refl _)).1
  rw [List.length_drop] at this
  omega
set_option maxRecDepth 100000 in
set_option maxHeartbeats 4000000 in
theorem same_any {w : World} {Ba Bb Bm : Nat} {va vb vm : Value} {x y : List CP} {M : List Nat} (h : Tb w Ba Bb Bm va vb vm x y M) {i j : Nat} (hi : i ≤ x.length) (hj : j ≤ y.length) :
    Calls Tryd.prog 51 #[.agg #[va, vb, vm], .int .i64 (i : Int), .int .i64 (j : Int)] w fun r w' => r = .returned (.bool (sameB x y i j)) ∧ Below w.heap.size w w' := by
  obtain ⟨aa, ca, ab, cb, gm, cm, rfl, rfl, hvm, hca, hca2, hcb, hcb2, hcm, hcm2⟩ := h.parts
  have hnx := h.nx
  have hny := h.ny
  have HT := hide h
  have HVM := hide hvm
  clear hvm
  obtain ⟨na, hna⟩ : ∃ z, x.length = z := ⟨_, rfl⟩
  obtain ⟨nb, hnb⟩ : ∃ z, y.length = z := ⟨_, rfl⟩
  have HNA := hide hna
  have HNB := hide hnb
  by_cases hi1 : i < x.length
  · by_cases hj1 : j < y.length
    · obtain ⟨c, hc⟩ : ∃ c, x[i]? = some c := ⟨_, List.getElem?_eq_getElem hi1⟩
      obtain ⟨d, hd⟩ : ∃ d, y[j]? = some d := ⟨_, List.getElem?_eq_getElem hj1⟩
      have hv : sameB x y i j = ((rn c : Int) == (rn d : Int)) := by
        rw [rn_eq (h.cx _ (List.mem_of_getElem? hc)) (h.cy _ (List.mem_of_getElem? hd))]
        unfold sameB
        rw [hc, hd]
      rw [hv]
      obtain ⟨ga, c1, e, hca1, _⟩ := own_rd h.a (rnv_at hc)
      injection e with e1 e2 e3
      clear e2
      subst e1 e3
      obtain ⟨gb, c2, e, hcb1, _⟩ := own_rd h.b (rnv_at hd)
      injection e with e1 e2 e3
      clear e2
      subst e1 e3
      obtain ⟨p, hp⟩ : ∃ z : Int, (rn c : Int) = z := ⟨_, rfl⟩
      obtain ⟨q, hq⟩ : ∃ z : Int, (rn d : Int) = z := ⟨_, rfl⟩
      rw [hp] at hca1 ⊢
      rw [hq] at hcb1 ⊢
      rw [hna] at hca hnx hi1 ⊢
      rw [hnb] at hcb hny hj1 ⊢
      have i0 : (0 : Int) ≤ (i : Int) := by omega
      have i1 : (i : Int) < (na : Int) := by omega
      have j0 : (0 : Int) ≤ (j : Int) := by omega
      have j1 : (j : Int) < (nb : Int) := by omega
      have hb0 : Below w.heap.size w (w.alloc (.cells #[.slice (some ⟨ga, 0, none⟩) na ca, .slice (some ⟨gb, 0, none⟩) nb cb, vm] 63)) := (Below.refl _ _).alloc (Nat.le_refl _) _
      have hr0 := RowAt.new w 63 [.slice (some ⟨ga, 0, none⟩) na ca, .slice (some ⟨gb, 0, none⟩) nb cb, vm]
      have HS : Hid (∀ W, Below (w.alloc (.cells #[.slice (some ⟨ga, 0, none⟩) na ca, .slice (some ⟨gb, 0, none⟩) nb cb, vm] 63)).heap.size (w.alloc (.cells #[.slice (some ⟨ga, 0, none⟩) na ca, .slice (some ⟨gb, 0, none⟩) nb cb, vm] 63)) W → W.cell? ⟨w.heap.size, 0, none⟩ = some (.slice (some ⟨ga, 0, none⟩) na ca) ∧ W.cell? ⟨w.heap.size, 1, none⟩ = some (.slice (some ⟨gb, 0, none⟩) nb cb) ∧ W.cell? ⟨w.heap.size, 2, none⟩ = some vm) := hide (fun W hW => ⟨kept hW (hr0.cell 0), kept hW (hr0.cell 1), kept hW (hr0.cell 2)⟩)
      have HB := hide hb0
      clear hr0 hb0
      have hca2 := kept (unhide HB) hca1
      have hcb2 := kept (unhide HB) hcb1
      clear hv h hi hj hc hd hp hq hna hnb hca1 hcb1
      go_enter Tryd.func51, Tryd.ntmps51
      go_wp2_with fail
      obtain ⟨wA, hA⟩ : ∃ wA, (w.alloc (.cells #[.slice (some ⟨ga, 0, none⟩) na ca, .slice (some ⟨gb, 0, none⟩) nb cb, vm] 63)) = wA := ⟨_, rfl⟩
      rw [hA] at HS HB hca2 hcb2 ⊢
      clear hA
      have k0 : Below wA.heap.size wA wA.drew := (Below.refl _ _).drew
      obtain ⟨q0, q1, q2⟩ := unhide HS _ (Below.refl _ _)
      go_quiet (fail)
      have HB3 := hide ((unhide HB).trans ((Go.Joins.below_draws wA.heap.size wA nq).mono (unhide HB).size))
      clear k0 HS
      go_wp2_with fail
      go_ret
      exact ⟨by first | rfl | (simp; done), unhide HB3⟩
    · have hv : sameB x y i j = false := by
        unfold sameB
        rw [List.getElem?_eq_none (by omega : y.length ≤ j)]
        cases x[i]? <;> rfl
      rw [hv]
      rw [hna] at hi1 ⊢
      rw [hnb] at hj1 ⊢
      have i1 : decide ((i : Int) < (na : Int)) = true := by simp; omega
      have i1I : (i : Int) < (na : Int) := by omega
      have j1 : decide ((j : Int) < (nb : Int)) = false := by simp; omega
      have j1I : ¬ (j : Int) < (nb : Int) := by omega
      have j1N : ¬ j < nb := by omega
      have i1N : i < na := by omega
      have hb0 : Below w.heap.size w (w.alloc (.cells #[.slice aa na ca, .slice ab nb cb, vm] 63)) := (Below.refl _ _).alloc (Nat.le_refl _) _
      have hr0 := RowAt.new w 63 [.slice aa na ca, .slice ab nb cb, vm]
      have HS : Hid (∀ W, Below (w.alloc (.cells #[.slice aa na ca, .slice ab nb cb, vm] 63)).heap.size (w.alloc (.cells #[.slice aa na ca, .slice ab nb cb, vm] 63)) W → W.cell? ⟨w.heap.size, 0, none⟩ = some (.slice aa na ca) ∧ W.cell? ⟨w.heap.size, 1, none⟩ = some (.slice ab nb cb) ∧ W.cell? ⟨w.heap.size, 2, none⟩ = some vm) := hide (fun W hW => ⟨kept hW (hr0.cell 0), kept hW (hr0.cell 1), kept hW (hr0.cell 2)⟩)
      have HB := hide hb0
      clear hr0 hb0
      clear hv h hi hj hna hnb
      go_enter Tryd.func51, Tryd.ntmps51
      go_wp2_with fail
      obtain ⟨wA, hA⟩ : ∃ wA, (w.alloc (.cells #[.slice aa na ca, .slice ab nb cb, vm] 63)) = wA := ⟨_, rfl⟩
      rw [hA] at HS HB ⊢
      clear hA
      have k0 : Below wA.heap.size wA wA.drew := (Below.refl _ _).drew
      refine wp_region_T (S := fun W => W.cell? ⟨w.heap.size, 0, none⟩ = some (.slice aa na ca) ∧ W.cell? ⟨w.heap.size, 1, none⟩ = some (.slice ab nb cb) ∧ W.cell? ⟨w.heap.size, 2, none⟩ = some vm) (fun i => decide (i < 26)) (by kernel_rfl) (unhide HS _ k0) (fun hHeld => ?_)
      refine tk 0 (v := .int .i64 (i : Int)) rfl (Or.inl ⟨by rfl, ?_⟩) hHeld ?_
      · intro w hSw
        obtain ⟨q0, q1, q2⟩ := hSw
        first
          | rfl
          | (go_simp; done)
      try go_frame
      refine tk 1 (v := .pointer (some ⟨w.heap.size, 0, none⟩)) rfl (Or.inl ⟨by rfl, ?_⟩) hHeld ?_
      · intro w hSw
        obtain ⟨q0, q1, q2⟩ := hSw
        first
          | rfl
          | (go_simp; done)
      try go_frame
      refine tk 2 (v := .slice aa na ca) rfl (Or.inl ⟨by rfl, ?_⟩) hHeld ?_
      · intro w hSw
        obtain ⟨q0, q1, q2⟩ := hSw
        first
          | rfl
          | (go_simp; done)
      try go_frame
      refine tk 3 (v := .int .i64 (na : Int)) rfl (Or.inl ⟨by rfl, ?_⟩) hHeld ?_
      · intro w hSw
        obtain ⟨q0, q1, q2⟩ := hSw
        first
          | rfl
          | (go_simp; done)
      try go_frame
      refine tk 4 (v := .bool true) rfl (Or.inl ⟨by rfl, ?_⟩) hHeld ?_
      · intro w hSw
        obtain ⟨q0, q1, q2⟩ := hSw
        first
          | rfl
          | (go_simp; done)
      try go_frame
      refine tk 5 (v := .bool true) rfl (Or.inl ⟨by rfl, ?_⟩) hHeld ?_
      · intro w hSw
        obtain ⟨q0, q1, q2⟩ := hSw
        first
          | rfl
          | (go_simp; done)
      try go_frame
      refine tk 6 (v := .int .i64 (j : Int)) rfl (Or.inl ⟨by rfl, ?_⟩) hHeld ?_
      · intro w hSw
        obtain ⟨q0, q1, q2⟩ := hSw
        first
          | rfl
          | (go_simp; done)
      try go_frame
      refine tk 7 (v := .pointer (some ⟨w.heap.size, 1, none⟩)) rfl (Or.inl ⟨by rfl, ?_⟩) hHeld ?_
      · intro w hSw
        obtain ⟨q0, q1, q2⟩ := hSw
        first
          | rfl
          | (go_simp; done)
      try go_frame
      refine tk 8 (v := .slice ab nb cb) rfl (Or.inl ⟨by rfl, ?_⟩) hHeld ?_
      · intro w hSw
        obtain ⟨q0, q1, q2⟩ := hSw
        first
          | rfl
          | (go_simp; done)
      try go_frame
      refine tk 9 (v := .int .i64 (nb : Int)) rfl (Or.inl ⟨by rfl, ?_⟩) hHeld ?_
      · intro w hSw
        obtain ⟨q0, q1, q2⟩ := hSw
        first
          | rfl
          | (go_simp; done)
      try go_frame
      refine tk 10 (v := .bool false) rfl (Or.inl ⟨by rfl, ?_⟩) hHeld ?_
      · intro w hSw
        obtain ⟨q0, q1, q2⟩ := hSw
        first
          | rfl
          | (go_simp; done)
      try go_frame
      refine tk 11 (v := .bool false) rfl (Or.inl ⟨by rfl, ?_⟩) hHeld ?_
      · intro w hSw
        obtain ⟨q0, q1, q2⟩ := hSw
        first
          | rfl
          | (go_simp; done)
      try go_frame
      refine tk 12 (v := .bool false) rfl (Or.inl ⟨by rfl, ?_⟩) hHeld ?_
      · intro w hSw
        obtain ⟨q0, q1, q2⟩ := hSw
        first
          | rfl
          | (go_simp; done)
      try go_frame
      refine tk 13 (v := undef) rfl (Or.inr ⟨by rfl, rfl⟩) hHeld ?_
      try go_frame
      refine tk 14 (v := undef) rfl (Or.inr ⟨by rfl, rfl⟩) hHeld ?_
      try go_frame
      refine tk 15 (v := undef) rfl (Or.inr ⟨by rfl, rfl⟩) hHeld ?_
      try go_frame
      refine tk 16 (v := undef) rfl (Or.inr ⟨by rfl, rfl⟩) hHeld ?_
      try go_frame
      refine tk 17 (v := undef) rfl (Or.inr ⟨by rfl, rfl⟩) hHeld ?_
      try go_frame
      refine tk 18 (v := undef) rfl (Or.inr ⟨by rfl, rfl⟩) hHeld ?_
      try go_frame
      refine tk 19 (v := undef) rfl (Or.inr ⟨by rfl, rfl⟩) hHeld ?_
      try go_frame
      refine tk 20 (v := undef) rfl (Or.inr ⟨by rfl, rfl⟩) hHeld ?_
      try go_frame
      refine tk 21 (v := undef) rfl (Or.inr ⟨by rfl, rfl⟩) hHeld ?_
      try go_frame
      refine tk 22 (v := undef) rfl (Or.inr ⟨by rfl, rfl⟩) hHeld ?_
      try go_frame
      refine tk 23 (v := undef) rfl (Or.inr ⟨by rfl, rfl⟩) hHeld ?_
      try go_frame
      refine tk 24 (v := .bool false) rfl (Or.inl ⟨by rfl, ?_⟩) hHeld ?_
      · intro w hSw
        obtain ⟨q0, q1, q2⟩ := hSw
        first
          | rfl
          | (go_simp; done)
      try go_frame
      refine tk 25 (v := .bool false) rfl (Or.inl ⟨by rfl, ?_⟩) hHeld ?_
      · intro w hSw
        obtain ⟨q0, q1, q2⟩ := hSw
        first
          | rfl
          | (go_simp; done)
      try go_frame
      refine wpAnyT_done (by kernel_rfl) ?_ _
      have HB3 := hide ((unhide HB).trans (k0.mono (unhide HB).size))
      clear k0 HS
      go_wp2_with fail
      go_ret
      exact ⟨by first | rfl | (simp; done), unhide HB3⟩
  · have hv : sameB x y i j = false := by
      unfold sameB
      rw [List.getElem?_eq_none (by omega : x.length ≤ i)]
    rw [hv]
    rw [hna] at hi1 ⊢
    rw [hnb]
    have i1 : decide ((i : Int) < (na : Int)) = false := by simp; omega
    have i1I : ¬ (i : Int) < (na : Int) := by omega
    have i1N : ¬ i < na := by omega
    have hb0 : Below w.heap.size w (w.alloc (.cells #[.slice aa na ca, .slice ab nb cb, vm] 63)) := (Below.refl _ _).alloc (Nat.le_refl _) _
    have hr0 := RowAt.new w 63 [.slice aa na ca, .slice ab nb cb, vm]
    have HS : Hid (∀ W, Below (w.alloc (.cells #[.slice aa na ca, .slice ab nb cb, vm] 63)).heap.size (w.alloc (.cells #[.slice aa na ca, .slice ab nb cb, vm] 63)) W → W.cell? ⟨w.heap.size, 0, none⟩ = some (.slice aa na ca) ∧ W.cell? ⟨w.heap.size, 1, none⟩ = some (.slice ab nb cb) ∧ W.cell? ⟨w.heap.size, 2, none⟩ = some vm) := hide (fun W hW => ⟨kept hW (hr0.cell 0), kept hW (hr0.cell 1), kept hW (hr0.cell 2)⟩)
    have HB := hide hb0
    clear hr0 hb0
    clear hv h hi hj hna hnb
    go_enter Tryd.func51, Tryd.ntmps51
    go_wp2_with fail
    obtain ⟨wA, hA⟩ : ∃ wA, (w.alloc (.cells #[.slice aa na ca, .slice ab nb cb, vm] 63)) = wA := ⟨_, rfl⟩
    rw [hA] at HS HB ⊢
    clear hA
    have k0 : Below wA.heap.size wA wA.drew := (Below.refl _ _).drew
    refine wp_region_T (S := fun W => W.cell? ⟨w.heap.size, 0, none⟩ = some (.slice aa na ca) ∧ W.cell? ⟨w.heap.size, 1, none⟩ = some (.slice ab nb cb) ∧ W.cell? ⟨w.heap.size, 2, none⟩ = some vm) (fun i => decide (i < 26)) (by kernel_rfl) (unhide HS _ k0) (fun hHeld => ?_)
    refine tk 0 (v := .int .i64 (i : Int)) rfl (Or.inl ⟨by rfl, ?_⟩) hHeld ?_
    · intro w hSw
      obtain ⟨q0, q1, q2⟩ := hSw
      first
        | rfl
        | (go_simp; done)
    try go_frame
    refine tk 1 (v := .pointer (some ⟨w.heap.size, 0, none⟩)) rfl (Or.inl ⟨by rfl, ?_⟩) hHeld ?_
    · intro w hSw
      obtain ⟨q0, q1, q2⟩ := hSw
      first
        | rfl
        | (go_simp; done)
    try go_frame
    refine tk 2 (v := .slice aa na ca) rfl (Or.inl ⟨by rfl, ?_⟩) hHeld ?_
    · intro w hSw
      obtain ⟨q0, q1, q2⟩ := hSw
      first
        | rfl
        | (go_simp; done)
    try go_frame
    refine tk 3 (v := .int .i64 (na : Int)) rfl (Or.inl ⟨by rfl, ?_⟩) hHeld ?_
    · intro w hSw
      obtain ⟨q0, q1, q2⟩ := hSw
      first
        | rfl
        | (go_simp; done)
    try go_frame
    refine tk 4 (v := .bool false) rfl (Or.inl ⟨by rfl, ?_⟩) hHeld ?_
    · intro w hSw
      obtain ⟨q0, q1, q2⟩ := hSw
      first
        | rfl
        | (go_simp; done)
    try go_frame
    refine tk 5 (v := .bool false) rfl (Or.inl ⟨by rfl, ?_⟩) hHeld ?_
    · intro w hSw
      obtain ⟨q0, q1, q2⟩ := hSw
      first
        | rfl
        | (go_simp; done)
    try go_frame
    refine tk 6 (v := undef) rfl (Or.inr ⟨by rfl, rfl⟩) hHeld ?_
    try go_frame
    refine tk 7 (v := undef) rfl (Or.inr ⟨by rfl, rfl⟩) hHeld ?_
    try go_frame
    refine tk 8 (v := undef) rfl (Or.inr ⟨by rfl, rfl⟩) hHeld ?_
    try go_frame
    refine tk 9 (v := undef) rfl (Or.inr ⟨by rfl, rfl⟩) hHeld ?_
    try go_frame
    refine tk 10 (v := undef) rfl (Or.inr ⟨by rfl, rfl⟩) hHeld ?_
    try go_frame
    refine tk 11 (v := .bool false) rfl (Or.inl ⟨by rfl, ?_⟩) hHeld ?_
    · intro w hSw
      obtain ⟨q0, q1, q2⟩ := hSw
      first
        | rfl
        | (go_simp; done)
    try go_frame
    refine tk 12 (v := .bool false) rfl (Or.inl ⟨by rfl, ?_⟩) hHeld ?_
    · intro w hSw
      obtain ⟨q0, q1, q2⟩ := hSw
      first
        | rfl
        | (go_simp; done)
    try go_frame
    refine tk 13 (v := undef) rfl (Or.inr ⟨by rfl, rfl⟩) hHeld ?_
    try go_frame
    refine tk 14 (v := undef) rfl (Or.inr ⟨by rfl, rfl⟩) hHeld ?_
    try go_frame
    refine tk 15 (v := undef) rfl (Or.inr ⟨by rfl, rfl⟩) hHeld ?_
    try go_frame
    refine tk 16 (v := undef) rfl (Or.inr ⟨by rfl, rfl⟩) hHeld ?_
    try go_frame
    refine tk 17 (v := undef) rfl (Or.inr ⟨by rfl, rfl⟩) hHeld ?_
    try go_frame
    refine tk 18 (v := undef) rfl (Or.inr ⟨by rfl, rfl⟩) hHeld ?_
    try go_frame
    refine tk 19 (v := undef) rfl (Or.inr ⟨by rfl, rfl⟩) hHeld ?_
    try go_frame
    refine tk 20 (v := undef) rfl (Or.inr ⟨by rfl, rfl⟩) hHeld ?_
    try go_frame
    refine tk 21 (v := undef) rfl (Or.inr ⟨by rfl, rfl⟩) hHeld ?_
    try go_frame
    refine tk 22 (v := undef) rfl (Or.inr ⟨by rfl, rfl⟩) hHeld ?_
    try go_frame
    refine tk 23 (v := undef) rfl (Or.inr ⟨by rfl, rfl⟩) hHeld ?_
    try go_frame
    refine tk 24 (v := .bool false) rfl (Or.inl ⟨by rfl, ?_⟩) hHeld ?_
    · intro w hSw
      obtain ⟨q0, q1, q2⟩ := hSw
      first
        | rfl
        | (go_simp; done)
    try go_frame
    refine tk 25 (v := .bool false) rfl (Or.inl ⟨by rfl, ?_⟩) hHeld ?_
    · intro w hSw
      obtain ⟨q0, q1, q2⟩ := hSw
      first
        | rfl
        | (go_simp; done)
    try go_frame
    refine wpAnyT_done (by kernel_rfl) ?_ _
    have HB3 := hide ((unhide HB).trans (k0.mono (unhide HB).size))
    clear k0 HS
    go_wp2_with fail
    go_ret
    exact ⟨by first | rfl | (simp; done), unhide HB3⟩
end Go.Proofs.YtonabfpgdgnpnaaDoor

namespace Go.Proofs.YtonabfpgdgnpnaaDoor
set_option linter.unusedVariables false
set_option linter.unusedSimpArgs false
open Go.ChangeShapes Go.WideShapes Go.ChangeAt Go.RowKit Go.Joins Go.Deep

def dropB (x y : List CP) (i j : Nat) : Bool := decide (j = y.length) || (decide (i < x.length) && decide (lcs (x.drop i) (y.drop (j + 1)) ≤ lcs (x.drop (i + 1)) (y.drop j)))
set_option maxRecDepth 100000 in
set_option maxHeartbeats 4000000 in
theorem drops_any {w : World} {Ba Bb Bm : Nat} {va vb vm : Value} {x y : List CP} {M : List Nat} (h : Tb w Ba Bb Bm va vb vm x y M) {i j : Nat} (hi : i ≤ x.length) (hj : j ≤ y.length) (hM : TF x y M) :
    Calls Tryd.prog 52 #[.agg #[va, vb, vm], .int .i64 (i : Int), .int .i64 (j : Int)] w fun r w' => r = .returned (.bool (dropB x y i j)) ∧ Below w.heap.size w w' := by
  obtain ⟨aa, ca, ab, cb, gm, cm, rfl, rfl, hvm, hca, hca2, hcb, hcb2, hcm, hcm2⟩ := h.parts
  have hnx := h.nx
  have hny := h.ny
  have HT := hide h
  have HVM := hide hvm
  clear hvm
  obtain ⟨na, hna⟩ : ∃ z, x.length = z := ⟨_, rfl⟩
  obtain ⟨nb, hnb⟩ : ∃ z, y.length = z := ⟨_, rfl⟩
  have HNA := hide hna
  have HNB := hide hnb
  by_cases hj1 : j = y.length
  · have hv : dropB x y i j = true := by unfold dropB; simp [hj1]
    rw [hv]
    rw [hna]
    rw [hnb] at hj1 ⊢
    have j1 : ((j : Int) == (nb : Int)) = true := by simp; omega
    have hb0 : Below w.heap.size w (w.alloc (.cells #[.slice aa na ca, .slice ab nb cb, vm] 63)) := (Below.refl _ _).alloc (Nat.le_refl _) _
    have hr0 := RowAt.new w 63 [.slice aa na ca, .slice ab nb cb, vm]
    have HS : Hid (∀ W, Below (w.alloc (.cells #[.slice aa na ca, .slice ab nb cb, vm] 63)).heap.size (w.alloc (.cells #[.slice aa na ca, .slice ab nb cb, vm] 63)) W → W.cell? ⟨w.heap.size, 0, none⟩ = some (.slice aa na ca) ∧ W.cell? ⟨w.heap.size, 1, none⟩ = some (.slice ab nb cb) ∧ W.cell? ⟨w.heap.size, 2, none⟩ = some vm) := hide (fun W hW => ⟨kept hW (hr0.cell 0), kept hW (hr0.cell 1), kept hW (hr0.cell 2)⟩)
    have HB := hide hb0
    clear hr0 hb0
    clear hv h hi hj hM hna hnb
    go_enter Tryd.func52, Tryd.ntmps52
    go_wp2_with fail
    obtain ⟨wA, hA⟩ : ∃ wA, (w.alloc (.cells #[.slice aa na ca, .slice ab nb cb, vm] 63)) = wA := ⟨_, rfl⟩
    rw [hA] at HS HB ⊢
    clear hA
    have k0 : Below wA.heap.size wA wA.drew := (Below.refl _ _).drew
    refine wp_region_T (S := fun W => W.cell? ⟨w.heap.size, 0, none⟩ = some (.slice aa na ca) ∧ W.cell? ⟨w.heap.size, 1, none⟩ = some (.slice ab nb cb) ∧ W.cell? ⟨w.heap.size, 2, none⟩ = some vm) (fun i => decide (i < 26)) (by kernel_rfl) (unhide HS _ k0) (fun hHeld => ?_)
    refine tk 0 (v := .int .i64 (j : Int)) rfl (Or.inl ⟨by rfl, ?_⟩) hHeld ?_
    · intro w hSw
      obtain ⟨q0, q1, q2⟩ := hSw
      first
        | rfl
        | (go_simp; done)
    try go_frame
    refine tk 1 (v := .pointer (some ⟨w.heap.size, 1, none⟩)) rfl (Or.inl ⟨by rfl, ?_⟩) hHeld ?_
    · intro w hSw
      obtain ⟨q0, q1, q2⟩ := hSw
      first
        | rfl
        | (go_simp; done)
    try go_frame
    refine tk 2 (v := .slice ab nb cb) rfl (Or.inl ⟨by rfl, ?_⟩) hHeld ?_
    · intro w hSw
      obtain ⟨q0, q1, q2⟩ := hSw
      first
        | rfl
        | (go_simp; done)
    try go_frame
    refine tk 3 (v := .int .i64 (nb : Int)) rfl (Or.inl ⟨by rfl, ?_⟩) hHeld ?_
    · intro w hSw
      obtain ⟨q0, q1, q2⟩ := hSw
      first
        | rfl
        | (go_simp; done)
    try go_frame
    refine tk 4 (v := .bool true) rfl (Or.inl ⟨by rfl, ?_⟩) hHeld ?_
    · intro w hSw
      obtain ⟨q0, q1, q2⟩ := hSw
      first
        | rfl
        | (go_simp; done)
    try go_frame
    refine tk 5 (v := .bool true) rfl (Or.inl ⟨by rfl, ?_⟩) hHeld ?_
    · intro w hSw
      obtain ⟨q0, q1, q2⟩ := hSw
      first
        | rfl
        | (go_simp; done)
    try go_frame
    refine tk 6 (v := undef) rfl (Or.inr ⟨by rfl, rfl⟩) hHeld ?_
    try go_frame
    refine tk 7 (v := undef) rfl (Or.inr ⟨by rfl, rfl⟩) hHeld ?_
    try go_frame
    refine tk 8 (v := undef) rfl (Or.inr ⟨by rfl, rfl⟩) hHeld ?_
    try go_frame
    refine tk 9 (v := undef) rfl (Or.inr ⟨by rfl, rfl⟩) hHeld ?_
    try go_frame
    refine tk 10 (v := undef) rfl (Or.inr ⟨by rfl, rfl⟩) hHeld ?_
    try go_frame
    refine tk 11 (v := undef) rfl (Or.inr ⟨by rfl, rfl⟩) hHeld ?_
    try go_frame
    refine tk 12 (v := undef) rfl (Or.inr ⟨by rfl, rfl⟩) hHeld ?_
    try go_frame
    refine tk 13 (v := undef) rfl (Or.inr ⟨by rfl, rfl⟩) hHeld ?_
    try go_frame
    refine tk 14 (v := undef) rfl (Or.inr ⟨by rfl, rfl⟩) hHeld ?_
    try go_frame
    refine tk 15 (v := undef) rfl (Or.inr ⟨by rfl, rfl⟩) hHeld ?_
    try go_frame
    refine tk 16 (v := undef) rfl (Or.inr ⟨by rfl, rfl⟩) hHeld ?_
    try go_frame
    refine tk 17 (v := undef) rfl (Or.inr ⟨by rfl, rfl⟩) hHeld ?_
    try go_frame
    refine tk 18 (v := undef) rfl (Or.inr ⟨by rfl, rfl⟩) hHeld ?_
    try go_frame
    refine tk 19 (v := undef) rfl (Or.inr ⟨by rfl, rfl⟩) hHeld ?_
    try go_frame
    refine tk 20 (v := undef) rfl (Or.inr ⟨by rfl, rfl⟩) hHeld ?_
    try go_frame
    refine tk 21 (v := undef) rfl (Or.inr ⟨by rfl, rfl⟩) hHeld ?_
    try go_frame
    refine tk 22 (v := undef) rfl (Or.inr ⟨by rfl, rfl⟩) hHeld ?_
    try go_frame
    refine tk 23 (v := undef) rfl (Or.inr ⟨by rfl, rfl⟩) hHeld ?_
    try go_frame
    refine tk 24 (v := .bool true) rfl (Or.inl ⟨by rfl, ?_⟩) hHeld ?_
    · intro w hSw
      obtain ⟨q0, q1, q2⟩ := hSw
      first
        | rfl
        | (go_simp; done)
    try go_frame
    refine tk 25 (v := .bool true) rfl (Or.inl ⟨by rfl, ?_⟩) hHeld ?_
    · intro w hSw
      obtain ⟨q0, q1, q2⟩ := hSw
      first
        | rfl
        | (go_simp; done)
    try go_frame
    refine wpAnyT_done (by kernel_rfl) ?_ _
    have HB3 := hide ((unhide HB).trans (k0.mono (unhide HB).size))
    clear k0 HS
    go_wp2_with fail
    go_ret
    exact ⟨by first | rfl | (simp; done), unhide HB3⟩
  · have j1 : ((j : Int) == (y.length : Int)) = false := by simp; omega
    by_cases hi1 : i < x.length
    · have HM1 := hM (i + 1) j (by omega) hj
      have HM2 := hM i (j + 1) hi (by omega)
      have hs1 := lcs_small (y := y) (h.nx) (i + 1) j
      have hs2 := lcs_small (y := y) (h.nx) i (j + 1)
      have hv : dropB x y i j = decide ((lcs (x.drop i) (y.drop (j + 1)) : Int) ≤ (lcs (x.drop (i + 1)) (y.drop j) : Int)) := by
        unfold dropB
        simp [hj1, hi1]
      rw [hv]
      obtain ⟨m1, hm1⟩ : ∃ z, lcs (x.drop (i + 1)) (y.drop j) = z := ⟨_, rfl⟩
      obtain ⟨m2, hm2⟩ : ∃ z, lcs (x.drop i) (y.drop (j + 1)) = z := ⟨_, rfl⟩
      rw [hm1] at HM1 hs1 ⊢
      rw [hm2] at HM2 hs2 ⊢
      have K1 : Hid (∀ W, Below w.heap.size w W → Calls Tryd.prog 36 #[.agg #[.slice aa x.length ca, .slice ab y.length cb, vm], .int .i64 ((i : Int) + 1), .int .i64 ((j : Int))] W fun r w' => r = .returned (.int .i64 (m1 : Int)) ∧ Below W.heap.size W w') := hide (fun W (hb : Below w.heap.size w W) => by
          have h9 := kept_any ((unhide HT).call hb) (i := i + 1) (j := j) (m := m1) (by omega) (by omega) (HM1) (by omega)
          rw [show ((i + 1 : Nat) : Int) = (i : Int) + 1 by omega] at h9
          
          exact h9)
      have K2 : Hid (∀ W, Below w.heap.size w W → Calls Tryd.prog 36 #[.agg #[.slice aa x.length ca, .slice ab y.length cb, vm], .int .i64 ((i : Int)), .int .i64 ((j : Int) + 1)] W fun r w' => r = .returned (.int .i64 (m2 : Int)) ∧ Below W.heap.size W w') := hide (fun W (hb : Below w.heap.size w W) => by
          have h9 := kept_any ((unhide HT).call hb) (i := i) (j := j + 1) (m := m2) (by omega) (by omega) (HM2) (by omega)
          
          rw [show ((j + 1 : Nat) : Int) = (j : Int) + 1 by omega] at h9
          exact h9)
      rw [hna] at hi1 K1 K2 ⊢
      rw [hnb] at j1 K1 K2 ⊢
      have i1 : (i : Int) < (na : Int) := by omega
      have j1b : ((j : Int) == (nb : Int)) = false := j1
      have ji : IntKind.i64.wrap ((j : Int) + 1) = (j : Int) + 1 := by rw [IntKind.wrap_i64]; have := unhide HNB; omega
      have ii : IntKind.i64.wrap ((i : Int) + 1) = (i : Int) + 1 := by rw [IntKind.wrap_i64]; have := unhide HNA; omega
      have hb0 : Below w.heap.size w (w.alloc (.cells #[.slice aa na ca, .slice ab nb cb, vm] 63)) := (Below.refl _ _).alloc (Nat.le_refl _) _
      have hr0 := RowAt.new w 63 [.slice aa na ca, .slice ab nb cb, vm]
      have HS : Hid (∀ W, Below (w.alloc (.cells #[.slice aa na ca, .slice ab nb cb, vm] 63)).heap.size (w.alloc (.cells #[.slice aa na ca, .slice ab nb cb, vm] 63)) W → W.cell? ⟨w.heap.size, 0, none⟩ = some (.slice aa na ca) ∧ W.cell? ⟨w.heap.size, 1, none⟩ = some (.slice ab nb cb) ∧ W.cell? ⟨w.heap.size, 2, none⟩ = some vm) := hide (fun W hW => ⟨kept hW (hr0.cell 0), kept hW (hr0.cell 1), kept hW (hr0.cell 2)⟩)
      have HB := hide hb0
      clear hr0 hb0
      clear hv h hi hj hM hna hnb HM1 HM2 hm1 hm2 hj1 j1
      go_enter Tryd.func52, Tryd.ntmps52
      go_wp2_with fail
      obtain ⟨wA, hA⟩ : ∃ wA, (w.alloc (.cells #[.slice aa na ca, .slice ab nb cb, vm] 63)) = wA := ⟨_, rfl⟩
      rw [hA] at HS HB ⊢
      clear hA
      have k0 : Below wA.heap.size wA wA.drew := (Below.refl _ _).drew
      go_region_held3 (fun W => W.cell? ⟨w.heap.size, 0, none⟩ = some (.slice aa na ca) ∧ W.cell? ⟨w.heap.size, 1, none⟩ = some (.slice ab nb cb) ∧ W.cell? ⟨w.heap.size, 2, none⟩ = some vm)
        (first | exact unhide HS _ k0 | exact unhide HS _ k2 | exact unhide HS _ k1)
        (first | ((fail_if_success (have := k1)); go_at_call 36; with_reducible refine Calls.mono (unhide K1 wA.drew ((unhide HB).trans (k0.mono (unhide HB).size))) ?_; rintro e w2 ⟨rfl, b2⟩; have k1 : Below wA.heap.size wA w2 := k0.trans (b2.mono k0.size)) | (go_at_call 36; with_reducible refine Calls.mono (unhide K2 _ ((unhide HB).trans (k1.mono (unhide HB).size))) ?_; rintro e w3 ⟨rfl, b3⟩; have k2 : Below wA.heap.size wA w3 := k1.trans (b3.mono k1.size)))
      have HB3 := hide ((unhide HB).trans (k2.mono (unhide HB).size))
      clear k0 k1 k2 b2 b3 HS K1 K2
      go_wp2_with fail
      go_ret
      exact ⟨by first | rfl | (simp; done), unhide HB3⟩
    · have hv : dropB x y i j = false := by unfold dropB; simp [hj1, hi1]
      rw [hv]
      rw [hna] at hi1 ⊢
      rw [hnb] at j1 ⊢
      have i1 : decide ((i : Int) < (na : Int)) = false := by simp; omega
      have i1I : ¬ (i : Int) < (na : Int) := by omega
      have i1N : ¬ i < na := by omega
      have j1N : ¬ j = nb := by have := unhide HNB; omega
      have hb0 : Below w.heap.size w (w.alloc (.cells #[.slice aa na ca, .slice ab nb cb, vm] 63)) := (Below.refl _ _).alloc (Nat.le_refl _) _
      have hr0 := RowAt.new w 63 [.slice aa na ca, .slice ab nb cb, vm]
      have HS : Hid (∀ W, Below (w.alloc (.cells #[.slice aa na ca, .slice ab nb cb, vm] 63)).heap.size (w.alloc (.cells #[.slice aa na ca, .slice ab nb cb, vm] 63)) W → W.cell? ⟨w.heap.size, 0, none⟩ = some (.slice aa na ca) ∧ W.cell? ⟨w.heap.size, 1, none⟩ = some (.slice ab nb cb) ∧ W.cell? ⟨w.heap.size, 2, none⟩ = some vm) := hide (fun W hW => ⟨kept hW (hr0.cell 0), kept hW (hr0.cell 1), kept hW (hr0.cell 2)⟩)
      have HB := hide hb0
      clear hr0 hb0
      clear hv h hi hj hM hna hnb hj1
      go_enter Tryd.func52, Tryd.ntmps52
      go_wp2_with fail
      obtain ⟨wA, hA⟩ : ∃ wA, (w.alloc (.cells #[.slice aa na ca, .slice ab nb cb, vm] 63)) = wA := ⟨_, rfl⟩
      rw [hA] at HS HB ⊢
      clear hA
      have k0 : Below wA.heap.size wA wA.drew := (Below.refl _ _).drew
      refine wp_region_T (S := fun W => W.cell? ⟨w.heap.size, 0, none⟩ = some (.slice aa na ca) ∧ W.cell? ⟨w.heap.size, 1, none⟩ = some (.slice ab nb cb) ∧ W.cell? ⟨w.heap.size, 2, none⟩ = some vm) (fun i => decide (i < 26)) (by kernel_rfl) (unhide HS _ k0) (fun hHeld => ?_)
      refine tk 0 (v := .int .i64 (j : Int)) rfl (Or.inl ⟨by rfl, ?_⟩) hHeld ?_
      · intro w hSw
        obtain ⟨q0, q1, q2⟩ := hSw
        first
          | rfl
          | (go_simp; done)
      try go_frame
      refine tk 1 (v := .pointer (some ⟨w.heap.size, 1, none⟩)) rfl (Or.inl ⟨by rfl, ?_⟩) hHeld ?_
      · intro w hSw
        obtain ⟨q0, q1, q2⟩ := hSw
        first
          | rfl
          | (go_simp; done)
      try go_frame
      refine tk 2 (v := .slice ab nb cb) rfl (Or.inl ⟨by rfl, ?_⟩) hHeld ?_
      · intro w hSw
        obtain ⟨q0, q1, q2⟩ := hSw
        first
          | rfl
          | (go_simp; done)
      try go_frame
      refine tk 3 (v := .int .i64 (nb : Int)) rfl (Or.inl ⟨by rfl, ?_⟩) hHeld ?_
      · intro w hSw
        obtain ⟨q0, q1, q2⟩ := hSw
        first
          | rfl
          | (go_simp; done)
      try go_frame
      refine tk 4 (v := .bool false) rfl (Or.inl ⟨by rfl, ?_⟩) hHeld ?_
      · intro w hSw
        obtain ⟨q0, q1, q2⟩ := hSw
        first
          | rfl
          | (go_simp; done)
      try go_frame
      refine tk 5 (v := .bool false) rfl (Or.inl ⟨by rfl, ?_⟩) hHeld ?_
      · intro w hSw
        obtain ⟨q0, q1, q2⟩ := hSw
        first
          | rfl
          | (go_simp; done)
      try go_frame
      refine tk 6 (v := .int .i64 (i : Int)) rfl (Or.inl ⟨by rfl, ?_⟩) hHeld ?_
      · intro w hSw
        obtain ⟨q0, q1, q2⟩ := hSw
        first
          | rfl
          | (go_simp; done)
      try go_frame
      refine tk 7 (v := .pointer (some ⟨w.heap.size, 0, none⟩)) rfl (Or.inl ⟨by rfl, ?_⟩) hHeld ?_
      · intro w hSw
        obtain ⟨q0, q1, q2⟩ := hSw
        first
          | rfl
          | (go_simp; done)
      try go_frame
      refine tk 8 (v := .slice aa na ca) rfl (Or.inl ⟨by rfl, ?_⟩) hHeld ?_
      · intro w hSw
        obtain ⟨q0, q1, q2⟩ := hSw
        first
          | rfl
          | (go_simp; done)
      try go_frame
      refine tk 9 (v := .int .i64 (na : Int)) rfl (Or.inl ⟨by rfl, ?_⟩) hHeld ?_
      · intro w hSw
        obtain ⟨q0, q1, q2⟩ := hSw
        first
          | rfl
          | (go_simp; done)
      try go_frame
      refine tk 10 (v := .bool false) rfl (Or.inl ⟨by rfl, ?_⟩) hHeld ?_
      · intro w hSw
        obtain ⟨q0, q1, q2⟩ := hSw
        first
          | rfl
          | (go_simp; done)
      try go_frame
      refine tk 11 (v := .bool false) rfl (Or.inl ⟨by rfl, ?_⟩) hHeld ?_
      · intro w hSw
        obtain ⟨q0, q1, q2⟩ := hSw
        first
          | rfl
          | (go_simp; done)
      try go_frame
      refine tk 12 (v := undef) rfl (Or.inr ⟨by rfl, rfl⟩) hHeld ?_
      try go_frame
      refine tk 13 (v := undef) rfl (Or.inr ⟨by rfl, rfl⟩) hHeld ?_
      try go_frame
      refine tk 14 (v := undef) rfl (Or.inr ⟨by rfl, rfl⟩) hHeld ?_
      try go_frame
      refine tk 15 (v := undef) rfl (Or.inr ⟨by rfl, rfl⟩) hHeld ?_
      try go_frame
      refine tk 16 (v := undef) rfl (Or.inr ⟨by rfl, rfl⟩) hHeld ?_
      try go_frame
      refine tk 17 (v := undef) rfl (Or.inr ⟨by rfl, rfl⟩) hHeld ?_
      try go_frame
      refine tk 18 (v := undef) rfl (Or.inr ⟨by rfl, rfl⟩) hHeld ?_
      try go_frame
      refine tk 19 (v := undef) rfl (Or.inr ⟨by rfl, rfl⟩) hHeld ?_
      try go_frame
      refine tk 20 (v := undef) rfl (Or.inr ⟨by rfl, rfl⟩) hHeld ?_
      try go_frame
      refine tk 21 (v := undef) rfl (Or.inr ⟨by rfl, rfl⟩) hHeld ?_
      try go_frame
      refine tk 22 (v := undef) rfl (Or.inr ⟨by rfl, rfl⟩) hHeld ?_
      try go_frame
      refine tk 23 (v := .bool false) rfl (Or.inl ⟨by rfl, ?_⟩) hHeld ?_
      · intro w hSw
        obtain ⟨q0, q1, q2⟩ := hSw
        first
          | rfl
          | (go_simp; done)
      try go_frame
      refine tk 24 (v := .bool false) rfl (Or.inl ⟨by rfl, ?_⟩) hHeld ?_
      · intro w hSw
        obtain ⟨q0, q1, q2⟩ := hSw
        first
          | rfl
          | (go_simp; done)
      try go_frame
      refine tk 25 (v := .bool false) rfl (Or.inl ⟨by rfl, ?_⟩) hHeld ?_
      · intro w hSw
        obtain ⟨q0, q1, q2⟩ := hSw
        first
          | rfl
          | (go_simp; done)
      try go_frame
      refine wpAnyT_done (by kernel_rfl) ?_ _
      have HB3 := hide ((unhide HB).trans (k0.mono (unhide HB).size))
      clear k0 HS
      go_wp2_with fail
      go_ret
      exact ⟨by first | rfl | (simp; done), unhide HB3⟩
def bestN (x y : List CP) (i j : Nat) : Nat := lcs (x.drop i) (y.drop j)
theorem best_eq {x y : List CP} {i j : Nat} {c : CP} (hx : x[i]? = some c) (hy : y[j]? = some c) : lcs (x.drop i) (y.drop j) = lcs (x.drop (i + 1)) (y.drop (j + 1)) + 1 := by
  obtain ⟨h1, e1⟩ := List.getElem?_eq_some_iff.1 hx
  obtain ⟨h2, e2⟩ := List.getElem?_eq_some_iff.1 hy
  rw [List.drop_eq_getElem_cons h1, List.drop_eq_getElem_cons h2, e1, e2, lcs_eq]
theorem best_ne {x y : List CP} {i j : Nat} {c d : CP} (hx : x[i]? = some c) (hy : y[j]? = some d) (h : c ≠ d) : lcs (x.drop i) (y.drop j) = max (lcs (x.drop (i + 1)) (y.drop j)) (lcs (x.drop i) (y.drop (j + 1))) := by
  obtain ⟨h1, e1⟩ := List.getElem?_eq_some_iff.1 hx
  obtain ⟨h2, e2⟩ := List.getElem?_eq_some_iff.1 hy
  have k1 := List.drop_eq_getElem_cons h1
  have k2 := List.drop_eq_getElem_cons h2
  rw [e1] at k1
  rw [e2] at k2
  rw [k1, k2, lcs_ne h, ← k1, ← k2]
set_option maxRecDepth 100000 in
set_option maxHeartbeats 4000000 in
theorem best_any {w : World} {Ba Bb Bm : Nat} {va vb vm : Value} {x y : List CP} {M : List Nat} (h : Tb w Ba Bb Bm va vb vm x y M) {i j : Nat} (hi : i < x.length) (hj : j < y.length) (h11 : M[(i + 1) * (y.length + 1) + (j + 1)]? = some (lcs (x.drop (i + 1)) (y.drop (j + 1)))) (h10 : M[(i + 1) * (y.length + 1) + j]? = some (lcs (x.drop (i + 1)) (y.drop j))) (h01 : M[i * (y.length + 1) + (j + 1)]? = some (lcs (x.drop i) (y.drop (j + 1)))) :
    Calls Tryd.prog 56 #[.agg #[va, vb, vm], .int .i64 (i : Int), .int .i64 (j : Int)] w fun r w' => r = .returned (.int .u16 (bestN x y i j : Int)) ∧ Below w.heap.size w w' := by
  obtain ⟨aa, ca, ab, cb, gm, cm, rfl, rfl, hvm, hca, hca2, hcb, hcb2, hcm, hcm2⟩ := h.parts
  have hnx := h.nx
  have hny := h.ny
  have HT := hide h
  subst hvm
  obtain ⟨na, hna⟩ : ∃ z, x.length = z := ⟨_, rfl⟩
  obtain ⟨nb, hnb⟩ : ∃ z, y.length = z := ⟨_, rfl⟩
  have HNA := hide hna
  have HNB := hide hnb
  obtain ⟨c, hc⟩ : ∃ c, x[i]? = some c := ⟨_, List.getElem?_eq_getElem hi⟩
  obtain ⟨d, hd⟩ : ∃ d, y[j]? = some d := ⟨_, List.getElem?_eq_getElem hj⟩
  have hrn := rn_eq (h.cx _ (List.mem_of_getElem? hc)) (h.cy _ (List.mem_of_getElem? hd))
  obtain ⟨ga, c1, e, hca1, _⟩ := own_rd h.a (rnv_at hc)
  injection e with e1 e2 e3
  clear e2
  subst e1 e3
  obtain ⟨gb, c2, e, hcb1, _⟩ := own_rd h.b (rnv_at hd)
  injection e with e1 e2 e3
  clear e2
  subst e1 e3
  obtain ⟨p, hp⟩ : ∃ z : Int, (rn c : Int) = z := ⟨_, rfl⟩
  obtain ⟨q, hq⟩ : ∃ z : Int, (rn d : Int) = z := ⟨_, rfl⟩
  rw [hp] at hca1 hrn
  rw [hq] at hcb1 hrn
  have s11 := lcs_small (y := y) h.nx (i + 1) (j + 1)
  have s10 := lcs_small (y := y) h.nx (i + 1) j
  have s01 := lcs_small (y := y) h.nx i (j + 1)
  have l11 := (List.getElem?_eq_some_iff.1 h11).1
  have l10 := (List.getElem?_eq_some_iff.1 h10).1
  have l01 := (List.getElem?_eq_some_iff.1 h01).1
  have hm11 := h.at_ h11
  have hm10 := h.at_ h10
  have hm01 := h.at_ h01
  have ji : IntKind.i64.wrap ((j : Int) + 1) = (j : Int) + 1 := by rw [IntKind.wrap_i64]; omega
  have ii : IntKind.i64.wrap ((i : Int) + 1) = (i : Int) + 1 := by rw [IntKind.wrap_i64]; omega
  have i0 : (0 : Int) ≤ (i : Int) := by omega
  have i1 : (i : Int) < (na : Int) := by omega
  have j0 : (0 : Int) ≤ (j : Int) := by omega
  have j1 : (j : Int) < (nb : Int) := by omega
  obtain ⟨nm, hnm⟩ : ∃ z, M.length = z := ⟨_, rfl⟩
  by_cases hcd : c = d
  · subst hcd
    have hv : bestN x y i j = lcs (x.drop (i + 1)) (y.drop (j + 1)) + 1 := best_eq hc hd
    rw [hv]
    rw [show decide (c = c) = true by simp] at hrn
    obtain ⟨m1, hm1⟩ : ∃ z, lcs (x.drop (i + 1)) (y.drop (j + 1)) = z := ⟨_, rfl⟩
    rw [hm1] at hm11 s11 ⊢
    obtain ⟨P1, hP1⟩ : ∃ z, (i + 1) * (y.length + 1) + (j + 1) = z := ⟨_, rfl⟩
    rw [hP1] at hm11 l11
    rw [hnb] at hP1
    rw [hna] at hca hnx ⊢
    rw [hnb] at hcb hny ⊢
    rw [hnm] at l11 ⊢
    have hcm1 := hm11
    have K1 : Hid (∀ W, Calls Tryd.prog 57 #[.agg #[.slice (some ⟨ga, 0, none⟩) na ca, .slice (some ⟨gb, 0, none⟩) nb cb, .slice (some ⟨gm, 0, none⟩) nm cm], .int .i64 ((i : Int) + 1), .int .i64 ((j : Int) + 1)] W fun r w' => r = .returned (.int .i64 (P1 : Int)) ∧ Below W.heap.size W w') := hide (fun W => by
        have h9 := place_any (.slice (some ⟨ga, 0, none⟩) na ca) (.slice (some ⟨gm, 0, none⟩) nm cm) (some ⟨gb, 0, none⟩) nb cb (i + 1) (j + 1) W (by have := unhide HNA; omega) (by have := unhide HNB; omega) hny
        rw [hP1] at h9
        rw [show ((i + 1 : Nat) : Int) = (i : Int) + 1 by omega] at h9
        rw [show ((j + 1 : Nat) : Int) = (j : Int) + 1 by omega] at h9
        exact h9)
    have P0 : (0 : Int) ≤ (P1 : Int) := by omega
    have P2 : (P1 : Int) < (nm : Int) := by omega
    have hu : IntKind.u16.wrap ((m1 : Int) + 1) = (m1 : Int) + 1 := by unfold IntKind.wrap; simp [IntKind.signed, IntKind.bits]; omega
    have hb0 : Below w.heap.size w (w.alloc (.cells #[.slice (some ⟨ga, 0, none⟩) na ca, .slice (some ⟨gb, 0, none⟩) nb cb, .slice (some ⟨gm, 0, none⟩) nm cm] 63)) := (Below.refl _ _).alloc (Nat.le_refl _) _
    have hr0 := RowAt.new w 63 [.slice (some ⟨ga, 0, none⟩) na ca, .slice (some ⟨gb, 0, none⟩) nb cb, .slice (some ⟨gm, 0, none⟩) nm cm]
    have HS : Hid (∀ W, Below (w.alloc (.cells #[.slice (some ⟨ga, 0, none⟩) na ca, .slice (some ⟨gb, 0, none⟩) nb cb, .slice (some ⟨gm, 0, none⟩) nm cm] 63)).heap.size (w.alloc (.cells #[.slice (some ⟨ga, 0, none⟩) na ca, .slice (some ⟨gb, 0, none⟩) nb cb, .slice (some ⟨gm, 0, none⟩) nm cm] 63)) W → W.cell? ⟨w.heap.size, 0, none⟩ = some (.slice (some ⟨ga, 0, none⟩) na ca) ∧ W.cell? ⟨w.heap.size, 1, none⟩ = some (.slice (some ⟨gb, 0, none⟩) nb cb) ∧ W.cell? ⟨w.heap.size, 2, none⟩ = some (.slice (some ⟨gm, 0, none⟩) nm cm) ∧ W.cell? ⟨gm, P1, none⟩ = some (.int .u16 (m1 : Int))) := hide (fun W hW => ⟨kept hW (hr0.cell 0), kept hW (hr0.cell 1), kept hW (hr0.cell 2), kept hW (kept hb0 hcm1)⟩)
    have HB := hide hb0
    have hca2 := kept hb0 hca1
    have hcb2 := kept hb0 hcb1
    clear hr0 hb0 hca1 hcb1
    clear hv h hi hj hc hd hp hq hna hnb hnm h11 h10 h01 l10 l01 hm11 hm10 hm01 hm1 hP1 hcm1 HT l11 s10 s01
    go_enter Tryd.func56, Tryd.ntmps56
    go_wp2_with fail
    obtain ⟨wA, hA⟩ : ∃ wA, (w.alloc (.cells #[.slice (some ⟨ga, 0, none⟩) na ca, .slice (some ⟨gb, 0, none⟩) nb cb, .slice (some ⟨gm, 0, none⟩) nm cm] 63)) = wA := ⟨_, rfl⟩
    rw [hA] at HS HB hca2 hcb2 ⊢
    clear hA
    have HA1 := unhide HS _ (Below.refl _ _)
    obtain ⟨q0, q1, q2, HA2⟩ := HA1
    clear HA2
    go_quiet (fail)
    clear q0 q1 q2
    have k0 : Below wA.heap.size wA (wA.drewN nq) := Go.Joins.below_draws wA.heap.size wA nq
    obtain ⟨wB, hB⟩ : ∃ wB, wA.drewN nq = wB := ⟨_, rfl⟩
    rw [hB] at k0 ⊢
    clear hB
    go_wp2_with fail
    have k1 : Below wA.heap.size wA wB.drew := k0.drew
    go_region_held3 (fun W => W.cell? ⟨w.heap.size, 0, none⟩ = some (.slice (some ⟨ga, 0, none⟩) na ca) ∧ W.cell? ⟨w.heap.size, 1, none⟩ = some (.slice (some ⟨gb, 0, none⟩) nb cb) ∧ W.cell? ⟨w.heap.size, 2, none⟩ = some (.slice (some ⟨gm, 0, none⟩) nm cm) ∧ W.cell? ⟨gm, P1, none⟩ = some (.int .u16 (m1 : Int)))
      (first | exact unhide HS _ k1 | exact unhide HS _ k2)
      (first | (go_at_call 57; with_reducible refine Calls.mono (unhide K1 wB.drew) ?_; rintro e w2 ⟨rfl, b2⟩; have k2 : Below wA.heap.size wA w2 := k1.trans (b2.mono k1.size)))
    have HB3 := hide ((unhide HB).trans (k2.mono (unhide HB).size))
    clear k0 k1 k2 b2 HS K1
    go_wp2_with fail
    go_ret
    exact ⟨by first | rfl | (simp; done), unhide HB3⟩
  · have hv : bestN x y i j = max (lcs (x.drop (i + 1)) (y.drop j)) (lcs (x.drop i) (y.drop (j + 1))) := best_ne hc hd hcd
    rw [hv]
    rw [show decide (c = d) = false by simp [hcd]] at hrn
    obtain ⟨m1, hm1⟩ : ∃ z, lcs (x.drop (i + 1)) (y.drop j) = z := ⟨_, rfl⟩
    obtain ⟨m2, hm2⟩ : ∃ z, lcs (x.drop i) (y.drop (j + 1)) = z := ⟨_, rfl⟩
    rw [hm1] at hm10 s10 ⊢
    rw [hm2] at hm01 s01 ⊢
    obtain ⟨P1, hP1⟩ : ∃ z, (i + 1) * (y.length + 1) + j = z := ⟨_, rfl⟩
    obtain ⟨P2, hP2⟩ : ∃ z, i * (y.length + 1) + (j + 1) = z := ⟨_, rfl⟩
    rw [hP1] at hm10 l10
    rw [hP2] at hm01 l01
    rw [hnb] at hP1 hP2
    rw [hna] at hca hnx ⊢
    rw [hnb] at hcb hny ⊢
    rw [hnm] at l10 l01 ⊢
    have hcm1 := hm10
    have hcm2 := hm01
    have K1 : Hid (∀ W, Calls Tryd.prog 57 #[.agg #[.slice (some ⟨ga, 0, none⟩) na ca, .slice (some ⟨gb, 0, none⟩) nb cb, .slice (some ⟨gm, 0, none⟩) nm cm], .int .i64 ((i : Int) + 1), .int .i64 ((j : Int))] W fun r w' => r = .returned (.int .i64 (P1 : Int)) ∧ Below W.heap.size W w') := hide (fun W => by
        have h9 := place_any (.slice (some ⟨ga, 0, none⟩) na ca) (.slice (some ⟨gm, 0, none⟩) nm cm) (some ⟨gb, 0, none⟩) nb cb (i + 1) j W (by have := unhide HNA; omega) (by have := unhide HNB; omega) hny
        rw [hP1] at h9
        rw [show ((i + 1 : Nat) : Int) = (i : Int) + 1 by omega] at h9
        
        exact h9)
    have K2 : Hid (∀ W, Calls Tryd.prog 57 #[.agg #[.slice (some ⟨ga, 0, none⟩) na ca, .slice (some ⟨gb, 0, none⟩) nb cb, .slice (some ⟨gm, 0, none⟩) nm cm], .int .i64 ((i : Int)), .int .i64 ((j : Int) + 1)] W fun r w' => r = .returned (.int .i64 (P2 : Int)) ∧ Below W.heap.size W w') := hide (fun W => by
        have h9 := place_any (.slice (some ⟨ga, 0, none⟩) na ca) (.slice (some ⟨gm, 0, none⟩) nm cm) (some ⟨gb, 0, none⟩) nb cb i (j + 1) W (by have := unhide HNA; omega) (by have := unhide HNB; omega) hny
        rw [hP2] at h9
        
        rw [show ((j + 1 : Nat) : Int) = (j : Int) + 1 by omega] at h9
        exact h9)
    have P10 : (0 : Int) ≤ (P1 : Int) := by omega
    have P11 : (P1 : Int) < (nm : Int) := by omega
    have P20 : (0 : Int) ≤ (P2 : Int) := by omega
    have P21 : (P2 : Int) < (nm : Int) := by omega
    have hb0 : Below w.heap.size w (w.alloc (.cells #[.slice (some ⟨ga, 0, none⟩) na ca, .slice (some ⟨gb, 0, none⟩) nb cb, .slice (some ⟨gm, 0, none⟩) nm cm] 63)) := (Below.refl _ _).alloc (Nat.le_refl _) _
    have hr0 := RowAt.new w 63 [.slice (some ⟨ga, 0, none⟩) na ca, .slice (some ⟨gb, 0, none⟩) nb cb, .slice (some ⟨gm, 0, none⟩) nm cm]
    have HS : Hid (∀ W, Below (w.alloc (.cells #[.slice (some ⟨ga, 0, none⟩) na ca, .slice (some ⟨gb, 0, none⟩) nb cb, .slice (some ⟨gm, 0, none⟩) nm cm] 63)).heap.size (w.alloc (.cells #[.slice (some ⟨ga, 0, none⟩) na ca, .slice (some ⟨gb, 0, none⟩) nb cb, .slice (some ⟨gm, 0, none⟩) nm cm] 63)) W → W.cell? ⟨w.heap.size, 0, none⟩ = some (.slice (some ⟨ga, 0, none⟩) na ca) ∧ W.cell? ⟨w.heap.size, 1, none⟩ = some (.slice (some ⟨gb, 0, none⟩) nb cb) ∧ W.cell? ⟨w.heap.size, 2, none⟩ = some (.slice (some ⟨gm, 0, none⟩) nm cm) ∧ W.cell? ⟨gm, P1, none⟩ = some (.int .u16 (m1 : Int)) ∧ W.cell? ⟨gm, P2, none⟩ = some (.int .u16 (m2 : Int))) := hide (fun W hW => ⟨kept hW (hr0.cell 0), kept hW (hr0.cell 1), kept hW (hr0.cell 2), kept hW (kept hb0 hcm1), kept hW (kept hb0 hcm2)⟩)
    have HB := hide hb0
    have hca2 := kept hb0 hca1
    have hcb2 := kept hb0 hcb1
    clear hr0 hb0 hca1 hcb1
    clear hv h hi hj hc hd hp hq hna hnb hnm h11 h10 h01 l10 l01 hm11 hm10 hm01 hm1 hm2 hP1 hP2 hcm1 hcm2 HT l11 s11
    go_enter Tryd.func56, Tryd.ntmps56
    go_wp2_with fail
    obtain ⟨wA, hA⟩ : ∃ wA, (w.alloc (.cells #[.slice (some ⟨ga, 0, none⟩) na ca, .slice (some ⟨gb, 0, none⟩) nb cb, .slice (some ⟨gm, 0, none⟩) nm cm] 63)) = wA := ⟨_, rfl⟩
    rw [hA] at HS HB hca2 hcb2 ⊢
    clear hA
    have HA1 := unhide HS _ (Below.refl _ _)
    obtain ⟨q0, q1, q2, HA2⟩ := HA1
    clear HA2
    go_quiet (fail)
    clear q0 q1 q2
    have k0 : Below wA.heap.size wA (wA.drewN nq) := Go.Joins.below_draws wA.heap.size wA nq
    obtain ⟨wB, hB⟩ : ∃ wB, wA.drewN nq = wB := ⟨_, rfl⟩
    rw [hB] at k0 ⊢
    clear hB
    go_wp2_with fail
    have k1 : Below wA.heap.size wA wB.drew := k0.drew
    go_region_held3 (fun W => W.cell? ⟨w.heap.size, 0, none⟩ = some (.slice (some ⟨ga, 0, none⟩) na ca) ∧ W.cell? ⟨w.heap.size, 1, none⟩ = some (.slice (some ⟨gb, 0, none⟩) nb cb) ∧ W.cell? ⟨w.heap.size, 2, none⟩ = some (.slice (some ⟨gm, 0, none⟩) nm cm) ∧ W.cell? ⟨gm, P1, none⟩ = some (.int .u16 (m1 : Int)) ∧ W.cell? ⟨gm, P2, none⟩ = some (.int .u16 (m2 : Int)))
      (first | exact unhide HS _ k1 | exact unhide HS _ k3 | exact unhide HS _ k2)
      (first | ((fail_if_success (have := k2)); go_at_call 57; with_reducible refine Calls.mono (unhide K1 wB.drew) ?_; rintro e w2 ⟨rfl, b2⟩; have k2 : Below wA.heap.size wA w2 := k1.trans (b2.mono k1.size)) | (go_at_call 57; with_reducible refine Calls.mono (unhide K2 _) ?_; rintro e w3 ⟨rfl, b3⟩; have k3 : Below wA.heap.size wA w3 := k2.trans (b3.mono k2.size)))
    have HB3 := hide ((unhide HB).trans (k3.mono (unhide HB).size))
    clear k0 k1 k2 k3 b2 b3 HS K1 K2
    go_wp2_with fail
    go_ret
    exact ⟨by first | rfl | (simp; done) | (simp; omega), unhide HB3⟩
end Go.Proofs.YtonabfpgdgnpnaaDoor

namespace Go.Proofs.YtonabfpgdgnpnaaDoor
set_option linter.unusedVariables false
set_option linter.unusedSimpArgs false
open Go.ChangeShapes Go.WideShapes Go.ChangeAt Go.RowKit Go.Joins Go.Deep

theorem info95 : ∃ i, Tryd.prog.info? 95 = some i ∧ i.zero = some (.int .u16 0) ∧ i.size = 1 ∧ i.bytes = 2 := info_parts (by kernel_rfl)
/-- what stands in the table behind the places (u - 1, v) -/
def TbI (x y : List CP) (u v : Nat) (M : List Nat) : Prop := M.length = (x.length + 1) * (y.length + 1) ∧ ∀ i j, i ≤ x.length → j ≤ y.length → (i = x.length ∨ j = y.length ∨ u ≤ i ∨ (i + 1 = u ∧ v ≤ j)) → M[i * (y.length + 1) + j]? = some (lcs (x.drop i) (y.drop j))
theorem TbI.start (x y : List CP) : TbI x y x.length y.length (List.replicate ((x.length + 1) * (y.length + 1)) 0) := by
  refine ⟨by simp, fun i j hi hj h => ?_⟩
  rw [List.getElem?_replicate, if_pos (place_lt hi hj)]
  have : i = x.length ∨ j = y.length := by omega
  rcases this with rfl | rfl
  · rw [List.drop_length, lcs_nil_left]
  · rw [List.drop_length, lcs_nil_right]
theorem TbI.row {x y : List CP} {u : Nat} {M : List Nat} (h : TbI x y (u + 1) 0 M) : TbI x y u y.length M := by
  refine ⟨h.1, fun i j hi hj k => h.2 i j hi hj ?_⟩
  omega
theorem TbI.next {x y : List CP} {i j : Nat} {M : List Nat} (h : TbI x y (i + 1) (j + 1) M) (hi : i < x.length) (hj : j < y.length) : TbI x y (i + 1) j (M.set (i * (y.length + 1) + j) (bestN x y i j)) := by
  refine ⟨by rw [List.length_set]; exact h.1, fun i' j' hi' hj' k => ?_⟩
  by_cases e : i * (y.length + 1) + j = i' * (y.length + 1) + j'
  · obtain ⟨rfl, rfl⟩ := place_inj (by omega) hj' e
    rw [List.getElem?_set_self (by rw [h.1]; exact place_lt (by omega) (by omega))]
    rfl
  · rw [List.getElem?_set_ne e]
    refine h.2 i' j' hi' hj' ?_
    by_cases e1 : i' = i ∧ j' = j
    · obtain ⟨rfl, rfl⟩ := e1
      exact absurd rfl e
    · omega
theorem TbI.ends {x y : List CP} {M : List Nat} (h : TbI x y 0 y.length M) : TF x y M := fun i j hi hj => h.2 i j hi hj (by omega)
theorem TbI.three {x y : List CP} {i j : Nat} {M : List Nat} (h : TbI x y (i + 1) (j + 1) M) (hi : i < x.length) (hj : j < y.length) : M[(i + 1) * (y.length + 1) + (j + 1)]? = some (lcs (x.drop (i + 1)) (y.drop (j + 1))) ∧ M[(i + 1) * (y.length + 1) + j]? = some (lcs (x.drop (i + 1)) (y.drop j)) ∧ M[i * (y.length + 1) + (j + 1)]? = some (lcs (x.drop i) (y.drop (j + 1))) :=
  ⟨h.2 _ _ (by omega) (by omega) (by omega), h.2 _ _ (by omega) (by omega) (by omega), h.2 _ _ (by omega) (by omega) (by omega)⟩
/-- the table as it is being made: the struct in block gt, its numbers in block gm -/
structure TbW (w0 wr : World) (Ba Bb g0 gm gt : Nat) (va vb : Value) (x y : List CP) (u v P : Nat) (M : List Nat) : Prop where
  tb : Tb wr Ba Bb w0.heap.size va vb (.slice (some ⟨gm, 0, none⟩) P P) x y M
  row : RowAt wr gt 63 [va, vb, .slice (some ⟨gm, 0, none⟩) P P]
  res : RowAt wr g0 63 [.slice none 0 0, .slice none 0 0, .slice none 0 0]
  ti : TbI x y u v M
  bel : Below w0.heap.size w0 wr
  g0B : w0.heap.size ≤ g0
  gmB : w0.heap.size ≤ gm
  ne : g0 ≠ gt
theorem TbW.set {w0 wr w3 : World} {Ba Bb g0 gm gt : Nat} {va vb : Value} {x y : List CP} {i j P : Nat} {M : List Nat} (h : TbW w0 wr Ba Bb g0 gm gt va vb x y (i + 1) (j + 1) P M) (hb : Below wr.heap.size wr w3) (hi : i < x.length) (hj : j < y.length) : TbW w0 (w3.setCell ⟨gm, i * (y.length + 1) + j, none⟩ (.int .u16 (bestN x y i j : Int))) Ba Bb g0 gm gt va vb x y (i + 1) j P (M.set (i * (y.length + 1) + j) (bestN x y i j)) := by
  have ho : Only (· = gm) w3 (w3.setCell ⟨gm, i * (y.length + 1) + j, none⟩ (.int .u16 (bestN x y i j : Int))) := (Only.refl _ _).set gm _ _ rfl
  have t := h.tb.call hb
  have hl : M.length = P := by
    have h9 := t.m.2
    rcases h9 with ⟨e, _⟩ | ⟨g, c, cur, e, _⟩
    · cases e
    · injection e with _ e2 _; exact e2.symm
  have hlt : i * (y.length + 1) + j < M.length := by rw [t.len]; exact place_lt (by omega) (by omega)
  have hm0 : w3.ownsRow w0.heap.size 95 1 (.slice (some ⟨gm, 0, none⟩) P P) P (u16v M) := by
    have h9 := t.m
    rw [hl] at h9
    exact h9
  have hm := own_set hm0 (i * (y.length + 1) + j) (.int .u16 (bestN x y i j : Int)) (by rw [← hl]; exact hlt)
  rw [u16v_set] at hm
  have hrow := h.row.below hb h.row.lt
  have hres := h.res.below hb h.res.lt
  have hB := h.bel.trans (hb.mono h.bel.size)
  refine ⟨⟨own_only t.a ho (fun q hq hp => own_ne t.a t.m (by decide) q hq (by rw [hp]; rfl)), own_only t.b ho (fun q hq hp => own_ne t.b t.m (by decide) q hq (by rw [hp]; rfl)), by rw [List.length_set, hl]; exact hm, t.cx, t.cy, by rw [List.length_set]; exact t.len, t.nx, t.ny⟩, hrow.only ho (fun hp => tag_ne t.m hrow (by decide) (by rw [hp]; rfl)), hres.only ho (fun hp => tag_ne t.m hres (by decide) (by rw [hp]; rfl)), h.ti.next hi hj, hB.trans (ho.below hB.size (fun q hq => by rw [hq]; exact h.gmB)), h.g0B, h.gmB, h.ne⟩
theorem TbW.rowed {w0 wr : World} {Ba Bb g0 gm gt : Nat} {va vb : Value} {x y : List CP} {u P : Nat} {M : List Nat} (h : TbW w0 wr Ba Bb g0 gm gt va vb x y (u + 1) 0 P M) : TbW w0 wr Ba Bb g0 gm gt va vb x y u y.length P M := ⟨h.tb, h.row, h.res, h.ti.row, h.bel, h.g0B, h.gmB, h.ne⟩
theorem TbW.sees {w0 wr : World} {Ba Bb g0 gm gt : Nat} {va vb : Value} {x y : List CP} {u v P : Nat} {M : List Nat} (h : TbW w0 wr Ba Bb g0 gm gt va vb x y u v P M) : ∀ W, Below wr.heap.size wr W → W.cell? ⟨gt, 0, none⟩ = some va ∧ W.cell? ⟨gt, 1, none⟩ = some vb ∧ W.cell? ⟨gt, 2, none⟩ = some (.slice (some ⟨gm, 0, none⟩) P P) := fun W hW => ⟨kept hW (h.row.cell 0), kept hW (h.row.cell 1), kept hW (h.row.cell 2)⟩
theorem TbW.sees2 {w0 wr : World} {Ba Bb g0 gm gt : Nat} {va vb : Value} {x y : List CP} {u v P : Nat} {M : List Nat} (h : TbW w0 wr Ba Bb g0 gm gt va vb x y u v P M) (p : Nat) (z : Value) : ∀ W, Below wr.heap.size wr W → (W.setCell ⟨gm, p, none⟩ z).cell? ⟨gt, 0, none⟩ = some va ∧ (W.setCell ⟨gm, p, none⟩ z).cell? ⟨gt, 1, none⟩ = some vb ∧ (W.setCell ⟨gm, p, none⟩ z).cell? ⟨gt, 2, none⟩ = some (.slice (some ⟨gm, 0, none⟩) P P) := fun W hW => by
  have ho : Only (· = gm) W (W.setCell ⟨gm, p, none⟩ z) := (Only.refl _ _).set gm _ _ rfl
  have hr := (h.row.below hW h.row.lt).only ho (fun hp => tag_ne (h.tb.call hW).m (h.row.below hW h.row.lt) (by decide) (by rw [hp]; rfl))
  exact ⟨hr.cell 0, hr.cell 1, hr.cell 2⟩
theorem TbW.stores {w0 wr : World} {Ba Bb g0 gm gt : Nat} {va vb : Value} {x y : List CP} {u v P : Nat} {M : List Nat} (h : TbW w0 wr Ba Bb g0 gm gt va vb x y u v P M) {i j : Nat} (hi : i < x.length) (hj : j < y.length) : ∀ W, Below wr.heap.size wr W → W.frozen? ⟨gm, i * (y.length + 1) + j, none⟩ = false ∧ ∃ z, W.cell? ⟨gm, i * (y.length + 1) + j, none⟩ = some z := fun W hW => by
  have t := h.tb.call hW
  have hlt : i * (y.length + 1) + j < M.length := by rw [t.len]; exact place_lt (by omega) (by omega)
  refine ⟨?_, _, t.at_ (List.getElem?_eq_getElem hlt)⟩
  have hm := t.m
  have hl : M.length = P := by
    rcases hm.2 with ⟨e, _⟩ | ⟨g, c, cur, e, _⟩
    · cases e
    · injection e with _ e2 _; exact e2.symm
  rw [← hl] at hm
  exact own_fr hm _
def TabR (x y : List CP) (va vb : Value) (w : World) (r : Ending) (w' : World) : Prop := ∃ Ba Bb vm M, r = .returned (.agg #[va, vb, vm]) ∧ Tb w' Ba Bb w.heap.size va vb vm x y M ∧ TF x y M ∧ Below w.heap.size w w'
set_option maxRecDepth 100000 in
set_option maxHeartbeats 4000000 in
theorem table_any {w : World} {Ba Bb : Nat} {va vb : Value} {x y : List CP} (ha : w.ownsRow Ba 21 1 va x.length (rnv x)) (hb : w.ownsRow Bb 21 1 vb y.length (rnv y)) (hcx : Cps x) (hcy : Cps y) (hnx : x.length ≤ 1024) (hny : y.length ≤ 1024) :
    Calls Tryd.prog 35 #[va, vb] w fun r w' => TabR x y va vb w r w' := by
  obtain ⟨aa, ca, rfl, hca, hca2⟩ := own_sl ha
  obtain ⟨ab, cb, rfl, hcb, hcb2⟩ := own_sl hb
  have HA := hide ha
  have HB := hide hb
  have hps := place_small (i := x.length) (j := y.length) (m := y.length) (by omega) (by omega) hny
  obtain ⟨P, hP⟩ : ∃ z, (x.length + 1) * (y.length + 1) = z := ⟨_, rfl⟩
  have hPs : P ≤ 1100001 := by rw [← hP, Nat.add_mul]; omega
  have HP := hide hP
  have hmul : ((x.length : Int) + 1) * ((y.length : Int) + 1) = (P : Int) := by rw [← hP]; simp
  obtain ⟨w0, hw0⟩ : ∃ z, w.alloc (.cells #[.slice none 0 0, .slice none 0 0, .slice none 0 0] 63) = z := ⟨_, rfl⟩
  have r0 := RowAt.new w 63 [.slice none 0 0, .slice none 0 0, .slice none 0 0]
  have bA : Below w.heap.size w (w.alloc (.cells #[.slice none 0 0, .slice none 0 0, .slice none 0 0] 63)) := (Below.refl _ _).alloc (Nat.le_refl _) _
  have hsz : (w.alloc (.cells #[.slice none 0 0, .slice none 0 0, .slice none 0 0] 63)).heap.size = w.heap.size + 1 := size_alloc _ _
  rw [show (([.slice none 0 0, .slice none 0 0, .slice none 0 0] : List Value)).toArray = #[.slice none 0 0, .slice none 0 0, .slice none 0 0] from rfl] at r0
  rw [hw0] at r0 bA hsz
  obtain ⟨w1, hmk, hr1, hg1⟩ := run_make_full (P := Tryd.prog) w0 w0.heap.size 61 95 (Classical.choose info95) (.int .u16 0) 1 Tryd.underlying61 (Classical.choose_spec info95).1 (Classical.choose_spec info95).2.1 (Classical.choose_spec info95).2.2.1 .i64 .i64 P (by rw [(Classical.choose_spec info95).2.2.2]; omega) (by unfold maxLen; omega) (Nat.le_refl _)
  have hrow : w1.ownsRow w.heap.size 95 1 (.slice (some ⟨w0.heap.size, 0, none⟩) P P) P (u16v (List.replicate P 0)) := by
    rw [u16v_rep]
    have e : (madeCells (Value.int .u16 0).cells (P * 1)).toList = List.replicate P (.int .u16 0) := by
      refine List.eq_replicate_iff.2 ⟨by simp [madeCells], fun v hv => ?_⟩
      simp [madeCells, Value.cells, Nat.mod_one] at hv
      first | exact hv.symm | exact hv | (obtain ⟨_, hv⟩ := hv; exact hv.symm) | (obtain ⟨_, hv⟩ := hv; exact hv) | simp_all
    rw [e] at hr1
    exact own_base hr1 (by omega)
  have b1 : Below w0.heap.size w0 w1 := (grown_only hg1).below (Nat.le_refl _) (fun k hk => by cases hk)
  have bW : Below w.heap.size w w1 := bA.trans (b1.mono (by omega))
  have r1 := r0.below b1 (by omega)
  have hal : Below w1.heap.size w1 (w1.alloc (.cells #[.slice aa x.length ca, .slice ab y.length cb, .slice (some ⟨w0.heap.size, 0, none⟩) P P] 63)) := (Below.refl _ _).alloc (Nat.le_refl _) _
  have hwsz : w0.heap.size ≤ w1.heap.size := b1.size
  have HTW : Hid (TbW w (w1.alloc (.cells #[.slice aa x.length ca, .slice ab y.length cb, .slice (some ⟨w0.heap.size, 0, none⟩) P P] 63)) Ba Bb w.heap.size w0.heap.size w1.heap.size (.slice aa x.length ca) (.slice ab y.length cb) x y x.length y.length P (List.replicate P 0)) := hide ⟨⟨own_call (own_call ha bW) hal, own_call (own_call hb bW) hal, by
    have h9 := own_call hrow hal
    rw [List.length_replicate]
    exact h9, hcx, hcy, by rw [List.length_replicate, hP], hnx, hny⟩, RowAt.new w1 63 _, r1.below hal (by omega), by rw [← hP]; exact TbI.start x y, bW.trans (hal.mono bW.size), Nat.le_refl _, by omega, by omega⟩
  obtain ⟨n, hn⟩ : ∃ z, x.length = z := ⟨_, rfl⟩
  obtain ⟨m, hm⟩ : ∃ z, y.length = z := ⟨_, rfl⟩
  have HN := hide hn
  have HM := hide hm
  rw [hn, hm] at hmul
  rw [hn] at hca hnx HTW ⊢
  rw [hm] at hcb hny HTW ⊢
  obtain ⟨gm, hgm⟩ : ∃ z, w0.heap.size = z := ⟨_, rfl⟩
  rw [hgm] at hmk HTW
  have hPI : (P : Int) ≤ 1100001 := by omega
  clear ha hb hps hP r0 bA hsz hr1 hg1 hrow b1 bW r1 hal hwsz hn hm hgm hcx hcy
  subst hw0
  go_enter Tryd.func35, Tryd.ntmps35
  go_wp2_with fail
  obtain ⟨gt, hgt⟩ : ∃ z, w1.heap.size = z := ⟨_, rfl⟩
  obtain ⟨g0, hg0⟩ : ∃ z, w.heap.size = z := ⟨_, rfl⟩
  have HG0 := hide hg0
  rw [hgt] at HTW ⊢
  have HTW2 : Hid (TbW w (w1.alloc (.cells #[.slice aa n ca, .slice ab m cb, .slice (some ⟨gm, 0, none⟩) P P] 63)) Ba Bb g0 gm gt (.slice aa n ca) (.slice ab m cb) x y n m P (List.replicate P 0)) := hide (by rw [← hg0]; exact unhide HTW)
  have HTW := HTW2
  rw [hg0]
  clear hmk hgt hg0 HTW2
  go_loopw [6] (fun iv wr => ∃ (u : Nat) (M : List Nat), u ≤ n ∧ iv = .int .i64 ((u : Int) - 1) ∧ Hid (TbW w wr Ba Bb g0 gm gt (.slice aa n ca) (.slice ab m cb) x y u m P M)) (fun iv _ => (intOf iv + 1).toNat)
  case atStart => exact ⟨n, _, by omega, rfl, HTW⟩
  case round =>
    clear HTW
    obtain ⟨u, M, hu, rfl, HT⟩ := hrel
    by_cases hu0 : u = 0
    · have huI : ¬ (0 : Int) ≤ (u : Int) - 1 := by omega
      have HU0 := hide hu0
      clear hu0
      obtain ⟨q0, q1, q2⟩ := (unhide HT).sees _ (Below.refl _ _)
      have hR := (unhide HT).res
      have c0 : wr.cell? ⟨g0, 0, none⟩ = some (.slice none 0 0) := hR.cell 0
      have f0 : wr.frozen? ⟨g0, 0, none⟩ = false := hR.frozen 0
      have hR1 := hR.set 0 (.slice aa n ca)
      have c1 : (wr.setCell ⟨g0, 0, none⟩ (.slice aa n ca)).cell? ⟨g0, 1, none⟩ = some (.slice none 0 0) := hR1.cell 1
      have f1 : (wr.setCell ⟨g0, 0, none⟩ (.slice aa n ca)).frozen? ⟨g0, 1, none⟩ = false := hR1.frozen 1
      have hR2 := hR1.set 1 (.slice ab m cb)
      have c2 : ((wr.setCell ⟨g0, 0, none⟩ (.slice aa n ca)).setCell ⟨g0, 1, none⟩ (.slice ab m cb)).cell? ⟨g0, 2, none⟩ = some (.slice none 0 0) := hR2.cell 2
      have f2 : ((wr.setCell ⟨g0, 0, none⟩ (.slice aa n ca)).setCell ⟨g0, 1, none⟩ (.slice ab m cb)).frozen? ⟨g0, 2, none⟩ = false := hR2.frozen 2
      have hR3 : RowAt (((wr.setCell ⟨g0, 0, none⟩ (.slice aa n ca)).setCell ⟨g0, 1, none⟩ (.slice ab m cb)).setCell ⟨g0, 2, none⟩ (.slice (some ⟨gm, 0, none⟩) P P)) g0 63 [.slice aa n ca, .slice ab m cb, .slice (some ⟨gm, 0, none⟩) P P] := hR2.set 2 (.slice (some ⟨gm, 0, none⟩) P P)
      have hO : Only (· = g0) wr (((wr.setCell ⟨g0, 0, none⟩ (.slice aa n ca)).setCell ⟨g0, 1, none⟩ (.slice ab m cb)).setCell ⟨g0, 2, none⟩ (.slice (some ⟨gm, 0, none⟩) P P)) := (((Only.refl (· = g0) wr).set g0 0 _ rfl).set g0 1 _ rfl).set g0 2 _ rfl
      have t := (unhide HT).tb
      have HE : Hid (TabR x y (.slice aa n ca) (.slice ab m cb) w (.returned (.agg #[.slice aa n ca, .slice ab m cb, .slice (some ⟨gm, 0, none⟩) P P])) (((wr.setCell ⟨g0, 0, none⟩ (.slice aa n ca)).setCell ⟨g0, 1, none⟩ (.slice ab m cb)).setCell ⟨g0, 2, none⟩ (.slice (some ⟨gm, 0, none⟩) P P))) := hide ⟨Ba, Bb, _, M, rfl, ⟨own_only t.a hO (fun q hq hp => tag_ne t.a hR (by decide) (by rw [hq, hp])), own_only t.b hO (fun q hq hp => tag_ne t.b hR (by decide) (by rw [hq, hp])), own_only t.m hO (fun q hq hp => tag_ne t.m hR (by decide) (by rw [hq, hp])), t.cx, t.cy, t.len, t.nx, t.ny⟩, by
        have h9 := (unhide HT).ti
        rw [unhide HU0, ← unhide HM] at h9
        exact h9.ends, (unhide HT).bel.trans (hO.below (unhide HT).bel.size (fun q hq => by rw [hq]; exact (unhide HT).g0B))⟩
      have HR3 := hide hR3
      clear hR hR1 hR2 hR3 hO t HT
      go_wp2_with fail
      refine bodyPost_ret (results_cell_row Tryd.results35 _ _ g0 63 #[.slice aa n ca, .slice ab m cb, .slice (some ⟨gm, 0, none⟩) P P] _ _ rfl (unhide HR3) Tryd.underlying63 rfl (by kernel_rfl)) rfl ?_
      exact unhide HE
    · obtain ⟨i, rfl⟩ : ∃ i, u = i + 1 := ⟨u - 1, by omega⟩
      rw [show ((i + 1 : Nat) : Int) - 1 = (i : Int) by omega]
      have i0 : (0 : Int) ≤ (i : Int) := by omega
      clear hu0
      go_wp2_with fail
      go_loopw [7] (fun jv wr => ∃ (v : Nat) (M : List Nat), v ≤ m ∧ jv = .int .i64 ((v : Int) - 1) ∧ Hid (TbW w wr Ba Bb g0 gm gt (.slice aa n ca) (.slice ab m cb) x y (i + 1) v P M)) (fun jv _ => (intOf jv + 1).toNat)
      case atStart => exact ⟨m, _, by omega, rfl, HT⟩
      case round =>
        clear HT
        obtain ⟨v, M, hv, rfl, HT⟩ := hrel
        by_cases hv0 : v = 0
        · have hvI : ¬ (0 : Int) ≤ (v : Int) - 1 := by omega
          have HV0 := hide hv0
          clear hv0
          go_wp2_with fail
          exact ⟨⟨i, M, by omega, by simp, hide (by have h9 := unhide HT; rw [unhide HV0] at h9; have h8 := h9.rowed; rw [unhide HM] at h8; exact h8)⟩, by simp [intOf]⟩
        · obtain ⟨j, rfl⟩ : ∃ j, v = j + 1 := ⟨v - 1, by omega⟩
          rw [show ((j + 1 : Nat) : Int) - 1 = (j : Int) by omega]
          have j0 : (0 : Int) ≤ (j : Int) := by omega
          have hiX : i < x.length := by rw [unhide HN]; omega
          have hjX : j < y.length := by rw [unhide HM]; omega
          have hst := (unhide HT).stores hiX hjX
          have hlt : i * (y.length + 1) + j < P := by rw [← unhide HP]; exact place_lt (by omega) (by omega)
          have h3 := (unhide HT).ti.three hiX hjX
          have KP := hide (fun W => place_any (.slice aa n ca) (.slice (some ⟨gm, 0, none⟩) P P) ab m cb i j W (by omega) (by omega) hny)
          have KB := hide (fun W (hb : Below wr.heap.size wr W) => best_any ((unhide HT).tb.call hb) hiX hjX h3.1 h3.2.1 h3.2.2)
          have HNX := hide (fun w3 (hb : Below wr.heap.size wr w3) => (unhide HT).set hb hiX hjX)
          obtain ⟨p, hp⟩ : ∃ z, i * (y.length + 1) + j = z := ⟨_, rfl⟩
          rw [hp] at hst hlt
          have HST := hide hst
          rw [hp] at HNX
          rw [unhide HM] at hp
          rw [hp] at KP
          obtain ⟨N, hN⟩ : ∃ z, bestN x y i j = z := ⟨_, rfl⟩
          rw [hN] at KB HNX
          have HS := hide (unhide HT).sees
          have HSS := hide ((unhide HT).sees2 p (.int .u16 (N : Int)))
          have p0 : (0 : Int) ≤ (p : Int) := by omega
          have p1 : (p : Int) < (P : Int) := by omega
          have k0 : Below wr.heap.size wr wr.drew := (Below.refl _ _).drew
          clear hst hlt h3 hp hN hv0 hiX hjX
          go_wp2_with fail
          go_region_held3 (fun W => W.cell? ⟨gt, 0, none⟩ = some (.slice aa n ca) ∧ W.cell? ⟨gt, 1, none⟩ = some (.slice ab m cb) ∧ W.cell? ⟨gt, 2, none⟩ = some (.slice (some ⟨gm, 0, none⟩) P P))
            (first | exact unhide HS _ k0 | exact unhide HS _ k2 | exact unhide HS _ k1 | exact unhide HSS _ k2)
            (first | (go_at_call 57; with_reducible refine Calls.mono (unhide KP _) ?_; rintro e w2 ⟨rfl, b2⟩; have k1 : Below wr.heap.size wr w2 := k0.trans (b2.mono k0.size)) | (go_at_call 56; with_reducible refine Calls.mono (unhide KB _ k1) ?_; rintro e w3 ⟨rfl, b3⟩; have k2 : Below wr.heap.size wr w3 := k1.trans (b3.mono k1.size); obtain ⟨hfz, zz, hcz⟩ := unhide HST _ k2))
          have HNE := hide (unhide HNX _ k2)
          clear k0 k1 k2 b2 b3 hfz hcz HST HS HSS KP KB HNX
          go_wp2_with fail
          exact ⟨⟨j, _, by omega, by simp, HNE⟩, by simp [intOf]⟩
end Go.Proofs.YtonabfpgdgnpnaaDoor

namespace Go.Proofs.YtonabfpgdgnpnaaDoor
set_option linter.unusedVariables false
set_option linter.unusedSimpArgs false
open Go.ChangeShapes Go.WideShapes Go.ChangeAt Go.RowKit Go.Joins Go.Deep

theorem infoPt : (Tryd.prog.info? 39).map (fun i => (i.zero, i.size, i.bytes)) = some (some (.agg #[.int .i64 0, .int .i64 0, .string ⟨#[]⟩]), 3, 32) := by kernel_rfl
theorem sumT_app (l : List Pt) (p : Pt) : sumT (l ++ [p]) = sumT l + p.text.size := sumT_snoc l p
theorem fits_put {n : Nat} {s : ByteArray} {ws : List (List UInt8)} (h : Tx s ws) (hn : ws.length = n) (h1 : 1 ≤ n) (h2 : n ≤ 1099511627776) : fitsB ⟨2, (n : Int), s⟩ = true :=
  fits_of_good ⟨by show (1 : Int) ≤ n; omega, .inr (.inr ⟨rfl, ws, h, by show (ws.length : Int) = n; omega⟩)⟩ (by show (n : Int) ≤ _; omega)
theorem one_k (n : Int) (h2 : n ≤ 1099511627776) : atomsL (([⟨1, n, ⟨#[]⟩⟩] : List Pt).filter fitsB) = List.replicate n.toNat .k := by
  by_cases h : 1 ≤ n
  · have hf : fitsB ⟨1, n, ⟨#[]⟩⟩ = true := fits_of_good ⟨h, .inl ⟨rfl, rfl⟩⟩ h2
    rw [List.filter_cons_of_pos hf, List.filter_nil, atomsL_one]
    exact atoms_keep _ _
  · have hf : ¬ fitsB ⟨1, n, ⟨#[]⟩⟩ = true := fun hf => by
      have := (fitsB_has hf).1
      exact h this
    rw [List.filter_cons_of_neg hf, List.filter_nil, show n.toNat = 0 by omega]
    rfl
theorem one_d (n : Int) (h2 : n ≤ 1099511627776) : atomsL (([⟨3, n, ⟨#[]⟩⟩] : List Pt).filter fitsB) = List.replicate n.toNat .d := by
  by_cases h : 1 ≤ n
  · have hf : fitsB ⟨3, n, ⟨#[]⟩⟩ = true := fits_of_good ⟨h, .inr (.inl ⟨rfl, rfl⟩)⟩ h2
    rw [List.filter_cons_of_pos hf, List.filter_nil, atomsL_one]
    exact atoms_drop _ _
  · have hf : ¬ fitsB ⟨3, n, ⟨#[]⟩⟩ = true := fun hf => by
      have := (fitsB_has hf).1
      exact h this
    rw [List.filter_cons_of_neg hf, List.filter_nil, show n.toNat = 0 by omega]
    rfl
theorem one_p {n : Nat} {s : ByteArray} {ws : List (List UInt8)} (h : Tx s ws) (hn : ws.length = n) (h2 : n ≤ 1099511627776) : atomsL (([⟨2, (n : Int), s⟩] : List Pt).filter fitsB) = ws.map .p := by
  by_cases h1 : 1 ≤ n
  · rw [List.filter_cons_of_pos (fits_put h hn h1 h2), List.filter_nil, atomsL_one]
    exact atoms_put h
  · have hf : ¬ fitsB ⟨2, (n : Int), s⟩ = true := fun hf => by
      have : (1 : Int) ≤ n := (fitsB_has hf).1
      omega
    rw [List.filter_cons_of_neg hf, List.filter_nil]
    obtain rfl : ws = [] := List.length_eq_zero_iff.1 (by omega)
    rfl
theorem drop_at {x : List CP} {i : Nat} {c : CP} (h : x[i]? = some c) : x.drop i = c :: x.drop (i + 1) := by
  obtain ⟨h1, e1⟩ := List.getElem?_eq_some_iff.1 h
  rw [List.drop_eq_getElem_cons h1, e1]
theorem lead_keep {x y : List CP} {i j : Nat} {c : CP} (hx : x[i]? = some c) (hy : y[j]? = some c) : leadA (x.drop i) (y.drop j) = .k :: leadA (x.drop (i + 1)) (y.drop (j + 1)) := by
  rw [drop_at hx, drop_at hy, leadA, if_pos rfl]
theorem same_true {x y : List CP} {i j : Nat} (h : sameB x y i j = true) : ∃ c, x[i]? = some c ∧ y[j]? = some c := by
  unfold sameB at h
  cases hx : x[i]? with
  | none => rw [hx] at h; cases h
  | some c =>
    cases hy : y[j]? with
    | none => rw [hx, hy] at h; cases h
    | some d =>
      rw [hx, hy] at h
      have : c = d := by simpa using h
      subst this
      exact ⟨c, rfl, rfl⟩
theorem same_false {x y : List CP} {i j : Nat} (h : sameB x y i j = false) {c d : CP} (hx : x[i]? = some c) (hy : y[j]? = some d) : c ≠ d := by
  unfold sameB at h
  rw [hx, hy] at h
  simpa using h
theorem lead_drop {x y : List CP} {i j : Nat} (hs : sameB x y i j = false) (hd : dropB x y i j = true) (hi : i < x.length ∨ j < y.length) (hj : j ≤ y.length) : i < x.length ∧ leadA (x.drop i) (y.drop j) = .d :: leadA (x.drop (i + 1)) (y.drop j) := by
  have hi2 : i < x.length := by
    rcases hi with h | h
    · exact h
    · unfold dropB at hd
      simp at hd
      omega
  refine ⟨hi2, ?_⟩
  have hx := List.getElem?_eq_getElem hi2
  by_cases e : j = y.length
  · rw [e, List.drop_length, drop_at hx, leadA]
  · have hy := List.getElem?_eq_getElem (show j < y.length by omega)
    have hne := same_false hs hx hy
    unfold dropB at hd
    simp [e, hi2] at hd
    rw [drop_at hx, drop_at hy, leadA, if_neg hne, ← drop_at hx, if_pos (by rw [← drop_at hy]; exact hd)]
theorem lead_put {x y : List CP} {i j : Nat} (hs : sameB x y i j = false) (hd : dropB x y i j = false) (hi : i ≤ x.length) (hj : j ≤ y.length) : ∃ d, y[j]? = some d ∧ leadA (x.drop i) (y.drop j) = .p d :: leadA (x.drop i) (y.drop (j + 1)) := by
  have hj2 : j < y.length := by
    unfold dropB at hd
    simp at hd
    omega
  have hy := List.getElem?_eq_getElem hj2
  refine ⟨_, hy, ?_⟩
  by_cases e : i = x.length
  · rw [e, List.drop_length, drop_at hy, leadA]
  · have hx := List.getElem?_eq_getElem (show i < x.length by omega)
    have hne := same_false hs hx hy
    have hi2 : i < x.length := by omega
    have hjn : ¬ j = y.length := by omega
    unfold dropB at hd
    simp [hjn, hi2] at hd
    rw [drop_at hx, drop_at hy, leadA, if_neg hne, ← drop_at hx, if_neg (by rw [← drop_at hy]; omega)]
/-- what the walk has made so far -/
structure LW (w wr : World) (Ba Bb Bt gt : Nat) (va vb vm ov : Value) (x y : List CP) (M : List Nat) (i j : Nat) (L : List Pt) : Prop where
  tb : Tb wr Ba Bb Bt va vb vm x y M
  row : RowAt wr gt 63 [va, vb, vm]
  out : OwnP wr w.heap.size ov L
  eq : atomsL (L.filter fitsB) ++ leadA (x.drop i) (y.drop j) = leadA x y
  len : L.length ≤ i + j
  txt : sumT L ≤ 4 * j
  bel : Below w.heap.size w wr
theorem OwnP.app {w : World} {B : Nat} {v : Value} {l m : List Pt} (h : w.ownsRow B 39 3 v (l.length + m.length) (ptc l ++ ptc m)) : OwnP w B v (l ++ m) := by
  unfold OwnP
  rw [List.length_append, ptc_app]
  exact h
theorem LW.step {w wr w2 w3 : World} {Ba Bb Bt gt : Nat} {va vb vm ov v' : Value} {x y : List CP} {M : List Nat} {i j i' j' : Nat} {L : List Pt} {p : Pt} (h : LW w wr Ba Bb Bt gt va vb vm ov x y M i j L) (hal : Below wr.heap.size wr w2) (hg : w2.grownBy w3 ov.ownBlock) (ho : w3.ownsRow w.heap.size 39 3 v' (L.length + 1) (ptc L ++ ptc [p]))
    (he : atomsL ([p].filter fitsB) ++ leadA (x.drop i') (y.drop j') = leadA (x.drop i) (y.drop j)) (hl : i + j + 1 ≤ i' + j') (ht : 4 * j + p.text.size ≤ 4 * j') : LW w w3 Ba Bb Bt gt va vb vm v' x y M i' j' (L ++ [p]) := by
  have o3 := grown_only hg
  have hO : w2.ownsRow w.heap.size 39 3 ov L.length (ptc L) := own_call h.out hal
  have t := h.tb.call hal
  have hr := h.row.below hal h.row.lt
  have hB := h.bel.trans (hal.mono h.bel.size)
  refine ⟨⟨own_only t.a o3 (fun q hq hp => own_ne t.a hO (by decide) q hq hp), own_only t.b o3 (fun q hq hp => own_ne t.b hO (by decide) q hq hp), own_only t.m o3 (fun q hq hp => own_ne t.m hO (by decide) q hq hp), t.cx, t.cy, t.len, t.nx, t.ny⟩, hr.only o3 (fun hp => tag_ne hO hr (by decide) hp), OwnP.app (m := [p]) ho, ?_, ?_, ?_, hB.trans (o3.below hB.size (fun q hq => (hO.lt q hq).1))⟩
  · rw [List.filter_append, atomsL_append, List.append_assoc, he, h.eq]
  · rw [List.length_append]
    have := h.len
    simp
    omega
  · rw [sumT_app]
    have := h.txt
    omega
theorem LW.sees {w wr : World} {Ba Bb Bt gt : Nat} {va vb vm ov : Value} {x y : List CP} {M : List Nat} {i j : Nat} {L : List Pt} (h : LW w wr Ba Bb Bt gt va vb vm ov x y M i j L) : wr.cell? ⟨gt, 0, none⟩ = some va ∧ wr.cell? ⟨gt, 1, none⟩ = some vb ∧ wr.cell? ⟨gt, 2, none⟩ = some vm := ⟨h.row.cell 0, h.row.cell 1, h.row.cell 2⟩
def LeadR (x y : List CP) (w : World) (r : Ending) (w' : World) : Prop := ∃ v l, r = .returned v ∧ OwnP w' w.heap.size v l ∧ NfG 0 l ∧ atomsL l = At.can (leadA x y) ∧ Below w.heap.size w w'
theorem lead_len (n : Nat) : ∀ (x y : List CP), x.length + y.length ≤ n → (leadA x y).length ≤ x.length + y.length := by
  induction n with
  | zero => intro x y h; cases x <;> cases y <;> simp at h; rw [leadA]; simp
  | succ n ih =>
    intro x y h
    cases x with
    | nil =>
      cases y with
      | nil => rw [leadA]; simp
      | cons d y =>
        have := ih [] y (by simp at h ⊢; omega)
        rw [leadA]
        simp at this ⊢
        omega
    | cons c x =>
      cases y with
      | nil =>
        have := ih x [] (by simp at h ⊢; omega)
        rw [leadA]
        simp at this ⊢
        omega
      | cons d y =>
        have i1 := ih x y (by simp at h ⊢; omega)
        have i2 := ih x (d :: y) (by simp at h ⊢; omega)
        have i3 := ih (c :: x) y (by simp at h ⊢; omega)
        simp at i2 i3
        rw [leadA]
        split
        · simp; omega
        · split <;> simp <;> omega
set_option maxRecDepth 100000 in
set_option maxHeartbeats 4000000 in
theorem lead_any {w : World} {Ba Bb : Nat} {va vb : Value} {x y : List CP} (hT : UT w) (ha : w.ownsRow Ba 21 1 va x.length (rnv x)) (hb : w.ownsRow Bb 21 1 vb y.length (rnv y)) (hcx : Cps x) (hcy : Cps y) (hnx : x.length ≤ 1024) (hny : y.length ≤ 1024) :
    Calls Tryd.prog 30 #[va, vb] w fun r w' => LeadR x y w r w' := by
  have KT := hide (table_any ha hb hcx hcy hnx hny)
  have HU : Hid (∀ W, Below w.heap.size w W → UT W) := hide (fun W h => hT.call h)
  obtain ⟨aa, ca, rfl, hca, hca2⟩ := own_sl ha
  obtain ⟨ab, cb, rfl, hcb, hcb2⟩ := own_sl hb
  obtain ⟨n, hn⟩ : ∃ z, x.length = z := ⟨_, rfl⟩
  obtain ⟨m, hm⟩ : ∃ z, y.length = z := ⟨_, rfl⟩
  have HN := hide hn
  have HM := hide hm
  rw [hn, hm] at KT
  rw [hn] at hca hnx ⊢
  rw [hm] at hcb hny ⊢
  clear ha hb hT hn hm
  go_enter Tryd.func30, Tryd.ntmps30
  go_wp2_with fail
  refine Calls.mono (unhide KT) ?_
  rintro r w1 h1
  obtain ⟨Ba, Bb, vm, M, rfl, ht, hF, b1⟩ := h1
  have HF := hide hF
  obtain ⟨_, _, _, _, gm, cm, -, -, hvm, -⟩ := ht.parts
  obtain ⟨P, hP⟩ : ∃ z, M.length = z := ⟨_, rfl⟩
  rw [hP] at hvm
  subst hvm
  clear hP
  have hal : Below w1.heap.size w1 (w1.alloc (.cells #[.slice aa n ca, .slice ab m cb, .slice (some ⟨gm, 0, none⟩) P cm] 63)) := (Below.refl _ _).alloc (Nat.le_refl _) _
  have HL0 : Hid (LW w (w1.alloc (.cells #[.slice aa n ca, .slice ab m cb, .slice (some ⟨gm, 0, none⟩) P cm] 63)) Ba Bb w.heap.size w1.heap.size (.slice aa n ca) (.slice ab m cb) (.slice (some ⟨gm, 0, none⟩) P cm) (.slice none 0 0) x y M 0 0 []) := hide ⟨ht.call hal, RowAt.new w1 63 _, OwnP.nil _ _, by simp [atomsL], by simp, by simp [sumT], b1.trans (hal.mono b1.size)⟩
  clear hal ht hF b1 KT
  go_wp2_with fail
  obtain ⟨gt, hgt⟩ : ∃ z, w1.heap.size = z := ⟨_, rfl⟩
  rw [hgt] at HL0 ⊢
  clear hgt
  go_loopw [6, 7, 8] (fun ov iv jv wr => ∃ (i j : Nat) (a2 : Option Addr) (c2 : Nat) (L : List Pt), i ≤ n ∧ j ≤ m ∧ iv = .int .i64 (i : Int) ∧ jv = .int .i64 (j : Int) ∧ ov = .slice a2 L.length c2 ∧ Hid (LW w wr Ba Bb w.heap.size gt (.slice aa n ca) (.slice ab m cb) (.slice (some ⟨gm, 0, none⟩) P cm) (.slice a2 L.length c2) x y M i j L)) (fun _ iv jv _ => ((n : Int) - intOf iv + ((m : Int) - intOf jv)).toNat)
  case atStart => exact ⟨0, 0, none, 0, [], by omega, by omega, by simp, by simp, rfl, HL0⟩
  case round =>
    clear HL0
    obtain ⟨i, j, a2, c2, L, hi, hj, rfl, rfl, rfl, HL⟩ := hrel
    have hll := (unhide HL).len
    obtain ⟨q0, q1, q2⟩ := (unhide HL).sees
    obtain ⟨q, hq⟩ : ∃ z, L.length = z := ⟨_, rfl⟩
    have HLQ := hide hq
    rw [hq] at HL hll ⊢
    clear hq
    have i0 : (0 : Int) ≤ (i : Int) := by omega
    have j0 : (0 : Int) ≤ (j : Int) := by omega
    by_cases hend : i < n ∨ j < m
    · have KS := hide (same_any (unhide HL).tb (i := i) (j := j) (by rw [unhide HN]; exact hi) (by rw [unhide HM]; exact hj))
      have KD := hide (fun W (hb : Below wr.heap.size wr W) => drops_any ((unhide HL).tb.call hb) (i := i) (j := j) (by rw [unhide HN]; exact hi) (by rw [unhide HM]; exact hj) (unhide HF))
      have hI1 : i < n → (i : Int) < (n : Int) := fun h => by omega
      obtain ⟨go, hgo, hgo2⟩ : ∃ g : Bool, ((decide ((i : Int) < (n : Int)) = true) ∨ (decide ((i : Int) < (n : Int)) = false ∧ decide ((j : Int) < (m : Int)) = true)) ∧ g = true := by
        refine ⟨true, ?_, rfl⟩
        by_cases h : i < n
        · exact .inl (by simp; omega)
        · exact .inr ⟨by simp; omega, by simp; omega⟩
      cases hsm : sameB x y i j with
      | true =>
        rw [hsm] at KS
        obtain ⟨c, hx, hy⟩ := same_true hsm
        have HK := hide (lead_keep hx hy)
        have hi3 := (List.getElem?_eq_some_iff.1 hx).1
        have hj3 := (List.getElem?_eq_some_iff.1 hy).1
        rw [unhide HN] at hi3
        rw [unhide HM] at hj3
        have hiI : (i : Int) < (n : Int) := by omega
        clear hsm hx hy hgo hgo2 hI1 hend KD
        go_wp2_with fail
        refine Calls.mono (unhide KS) ?_
        rintro r ws ⟨rfl, bs⟩
        have HBw := hide bs
        clear bs KS q0 q1 q2
        have hal : Below ws.heap.size ws (ws.alloc (.cells #[.int .i64 1, .int .i64 1, .string ⟨#[]⟩] 39)) := (Below.refl _ _).alloc (Nat.le_refl _) _
        have HAL := hide ((unhide HBw).trans (hal.mono (unhide HBw).size))
        have HS2 : Hid ((ws.alloc (.cells #[.int .i64 1, .int .i64 1, .string ⟨#[]⟩] 39)).ownsRow w.heap.size 39 3 (.slice a2 q c2) q (ptc L)) := hide (by have h9 := own_call (unhide HL).out (unhide HAL); rw [unhide HLQ] at h9; exact h9)
        have HB2 := hide ((unhide HL).bel.trans ((unhide HAL).mono (unhide HL).bel.size))
        have HC2 := hide (RowAt.new ws 39 [.int .i64 1, .int .i64 1, .string ⟨#[]⟩])
        clear hal
        go_wp2_with (at_builtin; refine unhide ?_)
        obtain ⟨i9, hi9, hz9, hs9, hb9⟩ := info_parts infoPt
        refine hide ?_
        refine wpList_append_own_at _ rfl _ _ 24 rfl w.heap.size 39 i9 (.agg #[.int .i64 0, .int .i64 0, .string ⟨#[]⟩]) 3 32 Tryd.underlying24 hi9 hz9 hs9 hb9 rfl (by decide) (.slice a2 q c2) q (ptc L) rfl (unhide HS2) ⟨ws.heap.size, 0, none⟩ 1 1 [.int .i64 1, .int .i64 1, .string ⟨#[]⟩] rfl rfl (fun j u hj => by
          have h9 := (unhide HC2).cell j
          rw [hj] at h9
          rw [Addr.add_lit, Nat.zero_add]
          exact h9) (fun u hu => by
          simp only [List.mem_cons, List.not_mem_nil, or_false] at hu
          rcases hu with rfl | rfl | rfl <;> rfl) (by unfold maxLen; omega) (by omega) (unhide HB2).size ?_
        intro v' w3 ho hg _ _
        obtain ⟨a4, c4, rfl, _, _⟩ := own_sl3 ho
        have HL2 := hide ((unhide HL).step (i' := i + 1) (j' := j + 1) (p := ⟨1, 1, ⟨#[]⟩⟩) (unhide HAL) hg (by rw [unhide HLQ]; exact ho) (by rw [one_k 1 (by omega), unhide HK]; rfl) (by omega) (by show 4 * j + 0 ≤ 4 * (j + 1); omega))
        clear ho hg HL HS2 HB2 HC2 HAL HBw i9 hi9 hz9 hs9 hb9
        go_wp2_with fail
        have hl9 : (L ++ [(⟨1, 1, ⟨#[]⟩⟩ : Pt)]).length = q + 1 := by rw [List.length_append, unhide HLQ]; rfl
        exact ⟨⟨i + 1, j + 1, a4, c4, _, by omega, by omega, by simp, by simp, by rw [hl9], by rw [hl9]; exact HL2⟩, by simp [intOf]; omega⟩
      | false =>
        rw [hsm] at KS
        cases hdr : dropB x y i j with
        | true =>
          rw [hdr] at KD
          obtain ⟨hi3, hk⟩ := lead_drop hsm hdr (by rw [unhide HN, unhide HM]; exact hend) (by rw [unhide HM]; exact hj)
          have HK := hide hk
          rw [unhide HN] at hi3
          have hiI : (i : Int) < (n : Int) := by omega
          clear hsm hdr hgo hgo2 hI1 hend hk
          go_wp2_with fail
          refine Calls.mono (unhide KS) ?_
          rintro r w5 ⟨rfl, b5⟩
          have h0 := kept b5 q0
          have h1 := kept b5 q1
          have h2 := kept b5 q2
          have HB5 := hide b5
          clear b5 KS q0 q1 q2
          go_wp2_with fail
          refine Calls.mono (unhide KD _ (unhide HB5)) ?_
          rintro r ws ⟨rfl, bs⟩
          have HBw := hide ((unhide HB5).trans (bs.mono (unhide HB5).size))
          clear bs KD h0 h1 h2 HB5
          have hal : Below ws.heap.size ws (ws.alloc (.cells #[.int .i64 3, .int .i64 1, .string ⟨#[]⟩] 39)) := (Below.refl _ _).alloc (Nat.le_refl _) _
          have HAL := hide ((unhide HBw).trans (hal.mono (unhide HBw).size))
          have HS2 : Hid ((ws.alloc (.cells #[.int .i64 3, .int .i64 1, .string ⟨#[]⟩] 39)).ownsRow w.heap.size 39 3 (.slice a2 q c2) q (ptc L)) := hide (by have h9 := own_call (unhide HL).out (unhide HAL); rw [unhide HLQ] at h9; exact h9)
          have HB2 := hide ((unhide HL).bel.trans ((unhide HAL).mono (unhide HL).bel.size))
          have HC2 := hide (RowAt.new ws 39 [.int .i64 3, .int .i64 1, .string ⟨#[]⟩])
          clear hal
          go_wp2_with (at_builtin; refine unhide ?_)
          obtain ⟨i9, hi9, hz9, hs9, hb9⟩ := info_parts infoPt
          refine hide ?_
          refine wpList_append_own_at _ rfl _ _ 24 rfl w.heap.size 39 i9 (.agg #[.int .i64 0, .int .i64 0, .string ⟨#[]⟩]) 3 32 Tryd.underlying24 hi9 hz9 hs9 hb9 rfl (by decide) (.slice a2 q c2) q (ptc L) rfl (unhide HS2) ⟨ws.heap.size, 0, none⟩ 1 1 [.int .i64 3, .int .i64 1, .string ⟨#[]⟩] rfl rfl (fun j u hj => by
            have h9 := (unhide HC2).cell j
            rw [hj] at h9
            rw [Addr.add_lit, Nat.zero_add]
            exact h9) (fun u hu => by
            simp only [List.mem_cons, List.not_mem_nil, or_false] at hu
            rcases hu with rfl | rfl | rfl <;> rfl) (by unfold maxLen; omega) (by omega) (unhide HB2).size ?_
          intro v' w3 ho hg _ _
          obtain ⟨a4, c4, rfl, _, _⟩ := own_sl3 ho
          have HL2 := hide ((unhide HL).step (i' := i + 1) (j' := j) (p := ⟨3, 1, ⟨#[]⟩⟩) (unhide HAL) hg (by rw [unhide HLQ]; exact ho) (by rw [one_d 1 (by omega), unhide HK]; rfl) (by omega) (by show 4 * j + 0 ≤ 4 * j; omega))
          clear ho hg HL HS2 HB2 HC2 HAL HBw i9 hi9 hz9 hs9 hb9
          go_wp2_with fail
          have hl9 : (L ++ [(⟨3, 1, ⟨#[]⟩⟩ : Pt)]).length = q + 1 := by rw [List.length_append, unhide HLQ]; rfl
          exact ⟨⟨i + 1, j, a4, c4, _, by omega, by omega, by simp, by simp, by rw [hl9], by rw [hl9]; exact HL2⟩, by simp [intOf]; omega⟩
        | false =>
          rw [hdr] at KD
          obtain ⟨d, hd, hk⟩ := lead_put hsm hdr (by rw [unhide HN]; exact hi) (by rw [unhide HM]; exact hj)
          have HK := hide hk
          have hj3 := (List.getElem?_eq_some_iff.1 hd).1
          rw [unhide HM] at hj3
          have hcd := (unhide HL).tb.cy _ (List.mem_of_getElem? hd)
          obtain ⟨gb, cb2, e, hcb3, _⟩ := own_rd (unhide HL).tb.b (rnv_at hd)
          injection e with e1 e2 e3
          clear e2
          subst e1 e3
          have henc := enc_cp hcd
          have HCP := hide hcd
          obtain ⟨z, hz⟩ : ∃ z : Int, (rn d : Int) = z := ⟨_, rfl⟩
          have henc2 : Utf8.encode z = ⟨d.toArray⟩ := by rw [← hz]; exact henc
          rw [hz] at hcb3
          obtain ⟨S, hS⟩ : ∃ S : ByteArray, (⟨d.toArray⟩ : ByteArray) = S := ⟨_, rfl⟩
          rw [hS] at henc2
          have hcv : ∀ W, (convert 21 9 (.int .i32 z)).run Tryd.prog W = .ok (.string S) W := fun W => by rw [← henc2]; rfl
          have hSt : Tx S [d] := by rw [← hS]; exact ⟨fun c hc => by rw [List.mem_singleton] at hc; rw [hc]; exact hcd, by simp⟩
          have HST := hide hSt
          have hSs : S.size ≤ 4 := by rw [← hS]; show d.toArray.size ≤ 4; rw [List.size_toArray]; exact hcd.four
          have hjI : (j : Int) < (m : Int) := by omega
          have hg1 : i < n ∨ ¬ i < n := by omega
          clear hsm hdr hgo hgo2 hI1 hend hk hd henc henc2 hz hS hSt hcd
          rcases hg1 with hg1 | hg1
          · have hiI : (i : Int) < (n : Int) := by omega
            go_wp2_with fail
            refine Calls.mono (unhide KS) ?_
            rintro r w5 ⟨rfl, b5⟩
            have h0 := kept b5 q0
            have h1 := kept b5 q1
            have h2 := kept b5 q2
            have h3 := kept b5 hcb3
            have HB5 := hide b5
            clear b5 KS q0 q1 q2 hcb3
            go_wp2_with fail
            refine Calls.mono (unhide KD _ (unhide HB5)) ?_
            rintro r ws ⟨rfl, bs⟩
            have hcb3 := kept bs h3
            have HBw := hide ((unhide HB5).trans (bs.mono (unhide HB5).size))
            clear bs KD h0 h1 h2 h3 HB5
            have hal : Below ws.heap.size ws (ws.alloc (.cells #[.int .i64 2, .int .i64 1, .string S] 39)) := (Below.refl _ _).alloc (Nat.le_refl _) _
            have HAL := hide ((unhide HBw).trans (hal.mono (unhide HBw).size))
            have HS2 : Hid ((ws.alloc (.cells #[.int .i64 2, .int .i64 1, .string S] 39)).ownsRow w.heap.size 39 3 (.slice a2 q c2) q (ptc L)) := hide (by have h9 := own_call (unhide HL).out (unhide HAL); rw [unhide HLQ] at h9; exact h9)
            have HB2 := hide ((unhide HL).bel.trans ((unhide HAL).mono (unhide HL).bel.size))
            have HC2 := hide (RowAt.new ws 39 [.int .i64 2, .int .i64 1, .string S])
            clear hal
            go_wp2_with (at_builtin; refine unhide ?_)
            obtain ⟨i9, hi9, hz9, hs9, hb9⟩ := info_parts infoPt
            refine hide ?_
            refine wpList_append_own_at _ rfl _ _ 24 rfl w.heap.size 39 i9 (.agg #[.int .i64 0, .int .i64 0, .string ⟨#[]⟩]) 3 32 Tryd.underlying24 hi9 hz9 hs9 hb9 rfl (by decide) (.slice a2 q c2) q (ptc L) rfl (unhide HS2) ⟨ws.heap.size, 0, none⟩ 1 1 [.int .i64 2, .int .i64 1, .string S] rfl rfl (fun j u hj => by
              have h9 := (unhide HC2).cell j
              rw [hj] at h9
              rw [Addr.add_lit, Nat.zero_add]
              exact h9) (fun u hu => by
              simp only [List.mem_cons, List.not_mem_nil, or_false] at hu
              rcases hu with rfl | rfl | rfl <;> rfl) (by unfold maxLen; omega) (by omega) (unhide HB2).size ?_
            intro v' w3 ho hg _ _
            obtain ⟨a4, c4, rfl, _, _⟩ := own_sl3 ho
            have HL2 := hide ((unhide HL).step (i' := i) (j' := j + 1) (p := ⟨2, 1, S⟩) (unhide HAL) hg (by rw [unhide HLQ]; exact ho) (by rw [show ([⟨2, 1, S⟩] : List Pt) = [⟨2, ((1 : Nat) : Int), S⟩] from rfl, one_p (n := 1) (unhide HST) (by rfl) (by omega), unhide HK]; rfl) (by omega) (by show 4 * j + S.size ≤ 4 * (j + 1); omega))
            clear ho hg HL HS2 HB2 HC2 HAL HBw i9 hi9 hz9 hs9 hb9
            go_wp2_with fail
            have hl9 : (L ++ [(⟨2, 1, S⟩ : Pt)]).length = q + 1 := by rw [List.length_append, unhide HLQ]; rfl
            exact ⟨⟨i, j + 1, a4, c4, _, by omega, by omega, by simp, by simp, by rw [hl9], by rw [hl9]; exact HL2⟩, by simp [intOf]; omega⟩
          · have hiI : ¬ (i : Int) < (n : Int) := by omega
            go_wp2_with fail
            refine Calls.mono (unhide KS) ?_
            rintro r w5 ⟨rfl, b5⟩
            have h0 := kept b5 q0
            have h1 := kept b5 q1
            have h2 := kept b5 q2
            have h3 := kept b5 hcb3
            have HB5 := hide b5
            clear b5 KS q0 q1 q2 hcb3
            go_wp2_with fail
            refine Calls.mono (unhide KD _ (unhide HB5)) ?_
            rintro r ws ⟨rfl, bs⟩
            have hcb3 := kept bs h3
            have HBw := hide ((unhide HB5).trans (bs.mono (unhide HB5).size))
            clear bs KD h0 h1 h2 h3 HB5
            have hal : Below ws.heap.size ws (ws.alloc (.cells #[.int .i64 2, .int .i64 1, .string S] 39)) := (Below.refl _ _).alloc (Nat.le_refl _) _
            have HAL := hide ((unhide HBw).trans (hal.mono (unhide HBw).size))
            have HS2 : Hid ((ws.alloc (.cells #[.int .i64 2, .int .i64 1, .string S] 39)).ownsRow w.heap.size 39 3 (.slice a2 q c2) q (ptc L)) := hide (by have h9 := own_call (unhide HL).out (unhide HAL); rw [unhide HLQ] at h9; exact h9)
            have HB2 := hide ((unhide HL).bel.trans ((unhide HAL).mono (unhide HL).bel.size))
            have HC2 := hide (RowAt.new ws 39 [.int .i64 2, .int .i64 1, .string S])
            clear hal
            go_wp2_with (at_builtin; refine unhide ?_)
            obtain ⟨i9, hi9, hz9, hs9, hb9⟩ := info_parts infoPt
            refine hide ?_
            refine wpList_append_own_at _ rfl _ _ 24 rfl w.heap.size 39 i9 (.agg #[.int .i64 0, .int .i64 0, .string ⟨#[]⟩]) 3 32 Tryd.underlying24 hi9 hz9 hs9 hb9 rfl (by decide) (.slice a2 q c2) q (ptc L) rfl (unhide HS2) ⟨ws.heap.size, 0, none⟩ 1 1 [.int .i64 2, .int .i64 1, .string S] rfl rfl (fun j u hj => by
              have h9 := (unhide HC2).cell j
              rw [hj] at h9
              rw [Addr.add_lit, Nat.zero_add]
              exact h9) (fun u hu => by
              simp only [List.mem_cons, List.not_mem_nil, or_false] at hu
              rcases hu with rfl | rfl | rfl <;> rfl) (by unfold maxLen; omega) (by omega) (unhide HB2).size ?_
            intro v' w3 ho hg _ _
            obtain ⟨a4, c4, rfl, _, _⟩ := own_sl3 ho
            have HL2 := hide ((unhide HL).step (i' := i) (j' := j + 1) (p := ⟨2, 1, S⟩) (unhide HAL) hg (by rw [unhide HLQ]; exact ho) (by rw [show ([⟨2, 1, S⟩] : List Pt) = [⟨2, ((1 : Nat) : Int), S⟩] from rfl, one_p (n := 1) (unhide HST) (by rfl) (by omega), unhide HK]; rfl) (by omega) (by show 4 * j + S.size ≤ 4 * (j + 1); omega))
            clear ho hg HL HS2 HB2 HC2 HAL HBw i9 hi9 hz9 hs9 hb9
            go_wp2_with fail
            have hl9 : (L ++ [(⟨2, 1, S⟩ : Pt)]).length = q + 1 := by rw [List.length_append, unhide HLQ]; rfl
            exact ⟨⟨i, j + 1, a4, c4, _, by omega, by omega, by simp, by simp, by rw [hl9], by rw [hl9]; exact HL2⟩, by simp [intOf]; omega⟩
    · obtain rfl : i = n := by omega
      obtain rfl : j = m := by omega
      have hend2 := (unhide HL).eq
      rw [← unhide HN, List.drop_length, ← unhide HM, List.drop_length] at hend2
      rw [show leadA [] [] = [] by rw [leadA], List.append_nil] at hend2
      obtain ⟨a5, c5, e5, hp5, _, _⟩ := (unhide HL).out.slice
      rw [unhide HLQ] at e5
      injection e5 with e5 _ e6
      subst e5 e6
      have hst := (unhide HL).txt
      have hB := (unhide HL).bel
      have KN := hide (norm_any a2 L c2 wr (unhide HU _ hB) hp5 (by rw [unhide HLQ]; omega) (by omega))
      have HG := hide (norm_good L (by rw [hend2]; have := lead_len _ x y (Nat.le_refl _); rw [unhide HN, unhide HM] at this; omega))
      rw [hend2] at HG
      rw [unhide HLQ] at KN
      have HB := hide hB
      have hiI : ¬ (i : Int) < (i : Int) := by omega
      have hjI : ¬ (j : Int) < (j : Int) := by omega
      clear hend2 hp5 hst hB HL q0 q1 q2 hend
      go_wp2_with fail
      refine Calls.mono (unhide KN) ?_
      rintro r w9 ⟨v9, rfl, ho9, b9⟩
      have HO9 := hide (own_base ho9 (unhide HB).size)
      have B9 := hide ((unhide HB).trans (b9.mono (unhide HB).size))
      clear ho9 b9 KN
      go_wp2_with fail
      go_ret
      exact ⟨_, _, rfl, unhide HO9, (unhide HG).1, (unhide HG).2, unhide B9⟩
end Go.Proofs.YtonabfpgdgnpnaaDoor
