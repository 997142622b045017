/- Rows of numbers that are read: slices.Index, Contains, Equal; a list of numbers that comes in. -/
import Derived.Test.YthgacmlbmcehmaaDLk
import Derived.ChangeSlices
namespace Go.Proofs.Ythgacmlbmcehmaa
set_option linter.unusedVariables false
set_option linter.unusedSimpArgs false
open Go.ChangeShapes Go.WideShapes Go.ChangeAt Go.RowKit Go.Joins Go.Deep

/-- these numbers lie there -/
def IntsAt (w : World) (v : Value) (xs : List Int) : Prop := ∃ a c, v = .slice a xs.length c ∧ xs.length ≤ c ∧ c ≤ maxLen ∧ (xs = [] ∨ ∃ b off, a = some ⟨b, off, none⟩ ∧ b < w.heap.size ∧ ∀ (i : Nat) x, xs[i]? = some x → w.cell? ⟨b, off + i, none⟩ = some (.int .i64 x))
theorem ints_own {w : World} {B : Nat} {v : Value} {xs : List Int} (h : w.ownsRow B 3 1 v xs.length (xs.map (Value.int IntKind.i64))) : IntsAt w v xs := by
  obtain ⟨hlen, ⟨rfl, h0⟩ | ⟨g, cap, cur, rfl, e2, e3, e4, e5, e6, e7⟩⟩ := h
  · have hx : xs = [] := by simpa using h0
    subst hx
    exact ⟨none, 0, rfl, Nat.le_refl _, Nat.zero_le _, .inl rfl⟩
  · have row : RowAt w g 3 cur.toList := e3
    refine ⟨_, cap, rfl, e4, e5, .inr ⟨g, 0, rfl, row.lt, fun i x hi => ?_⟩⟩
    rw [Nat.zero_add, row.cell]
    have hk : (xs.map (Value.int IntKind.i64))[i]? = some (.int .i64 x) := by rw [List.getElem?_map, hi]; rfl
    rw [← e7, List.getElem?_take] at hk
    split at hk
    · exact hk
    · cases hk
theorem IntsAt.call {w w' : World} {v : Value} {xs : List Int} (h : IntsAt w v xs) (hb : Below w.heap.size w w') : IntsAt w' v xs := by
  obtain ⟨a, c, rfl, h1, h2, h3⟩ := h
  refine ⟨a, c, rfl, h1, h2, ?_⟩
  rcases h3 with h | ⟨b, off, rfl, hlt, hc⟩
  · exact .inl h
  · exact .inr ⟨b, off, rfl, Nat.lt_of_lt_of_le hlt hb.size, fun i k hk => by rw [hb.cell (p := ⟨b, _, none⟩) hlt]; exact hc i k hk⟩
set_option maxRecDepth 100000 in
set_option maxHeartbeats 4000000 in
theorem index_ok (v : Value) (xs : List Int) (x : Int) (w : World) (h : IntsAt w v xs) :
    Calls Try.prog 48 #[v, .int .i64 x] w fun r w' => (∃ k : Int, r = .returned (.int .i64 k) ∧ decide (0 ≤ k) = decide (x ∈ xs)) ∧ w = w' := by
  obtain ⟨a, c, rfl, hc1, hc2, hx⟩ := h
  obtain ⟨n, hn⟩ : ∃ n, xs.length = n := ⟨_, rfl⟩
  rw [hn] at hc1 ⊢
  have HN := hide hn
  have HX := hide hx
  have nI : (n : Int) ≤ 9223372036854775807 := by unfold maxLen at hc2; omega
  clear hx hn
  go_enter Try.func48, Try.ntmps48
  go_wp2_with fail
  go_loopw [8] (fun t wr => ∃ k : Nat, k ≤ n ∧ t = .int .i64 (k : Int) ∧ Hid (x ∉ xs.take k) ∧ w = wr) (fun s _ => ((n : Int) - intOf s).toNat)
  case atStart => exact ⟨0, by omega, by simp, hide (by simp), rfl⟩
  case round =>
    obtain ⟨k, hk, rfl, HI, rfl⟩ := hrel
    by_cases hlt : k < n
    · have kI : (k : Int) < (n : Int) := by omega
      obtain ⟨y, hy⟩ : ∃ y, xs[k]? = some y := ⟨_, List.getElem?_eq_getElem (by have := unhide HN; omega)⟩
      rcases unhide HX with h0 | ⟨b, off, rfl, hbl, hcs⟩
      · rw [h0] at hy; cases hy
      have e0 := hcs k y hy
      have HT : Hid (xs.take (k + 1) = xs.take k ++ [y]) := hide (by rw [List.take_add_one, hy]; rfl)
      have HM := hide (List.mem_of_getElem? hy)
      clear hcs hbl hy
      by_cases hxy : x = y
      · subst hxy
        go_wp2_with fail
        go_ret
        exact ⟨⟨(k : Int), rfl, by simp [unhide HM]⟩, rfl⟩
      · have hb : (x == y) = false := by simp [hxy]
        have HI2 : Hid (x ∉ xs.take (k + 1)) := hide (by rw [unhide HT]; have := unhide HI; simp [this, hxy])
        clear HI HT HM
        go_wp2_with fail
        exact ⟨⟨k + 1, by omega, by simp, HI2, trivial⟩, by simp [intOf]; omega⟩
    · obtain rfl : k = n := by omega
      have kI : ¬ (k : Int) < (k : Int) := by omega
      have HI2 : Hid (x ∉ xs) := hide (by have := unhide HI; rw [List.take_of_length_le (by rw [unhide HN]; exact Nat.le_refl _)] at this; exact this)
      clear HI
      go_wp2_with fail
      go_ret
      exact ⟨⟨-1, rfl, by simp [unhide HI2]⟩, rfl⟩
set_option maxRecDepth 100000 in
set_option maxHeartbeats 4000000 in
theorem contains_ok (v : Value) (xs : List Int) (x : Int) (w : World) (h : IntsAt w v xs) :
    Calls Try.prog 36 #[v, .int .i64 x] w fun r w' => r = .returned (.bool (decide (x ∈ xs))) ∧ w = w' := by
  have HC := hide (index_ok v xs x w h)
  obtain ⟨a, c, rfl, _, _, _⟩ := h
  obtain ⟨n, hn⟩ : ∃ n, xs.length = n := ⟨_, rfl⟩
  rw [hn] at HC ⊢
  clear hn
  obtain ⟨bx, hbx⟩ : ∃ bx, decide (x ∈ xs) = bx := ⟨_, rfl⟩
  rw [hbx] at HC ⊢
  clear hbx
  go_enter Try.func36, Try.ntmps36
  go_wp2_with fail
  refine Calls.mono (unhide HC) ?_
  rintro r w2 ⟨⟨k, rfl, hk⟩, rfl⟩
  have HK := hide hk
  clear hk HC
  go_wp2_with fail
  go_ret
  exact ⟨by rw [← unhide HK]; rfl, rfl⟩
set_option maxRecDepth 100000 in
set_option maxHeartbeats 4000000 in
theorem equal_ok (v u : Value) (xs ys : List Int) (w : World) (h : IntsAt w v xs) (h2 : IntsAt w u ys) :
    Calls Try.prog 24 #[v, u] w fun r w' => r = .returned (.bool (decide (xs = ys))) ∧ Below w.heap.size w w' := by
  obtain ⟨a, c, rfl, hc1, hc2, hx⟩ := h
  obtain ⟨a2, c', rfl, hd1, hd2, hy⟩ := h2
  obtain ⟨n, hn⟩ : ∃ n, xs.length = n := ⟨_, rfl⟩
  obtain ⟨m, hm⟩ : ∃ m, ys.length = m := ⟨_, rfl⟩
  rw [hn] at hc1 ⊢
  rw [hm] at hd1 ⊢
  have HN := hide hn
  have HX := hide hx
  have HM := hide hm
  have HY := hide hy
  have nI : (n : Int) ≤ 9223372036854775807 := by unfold maxLen at hc2; omega
  have mI : (m : Int) ≤ 9223372036854775807 := by unfold maxLen at hd2; omega
  clear hx hn hy hm
  by_cases hnm : n = m
  rotate_left
  · have hb : ((n : Int) == (m : Int)) = false := by simp; omega
    have HF : Hid (decide (xs = ys) = false) := hide (by simp; intro e; apply hnm; rw [← unhide HN, ← unhide HM, e])
    go_enter Try.func24, Try.ntmps24
    go_wp2_with fail
    go_ret
    exact ⟨by rw [unhide HF]; rfl, Below.refl _ _⟩
  subst hnm
  go_enter Try.func24, Try.ntmps24
  go_wp2_with fail
  go_loopw [13] (fun t wr => ∃ k : Nat, k ≤ n ∧ t = .int .i64 (k : Int) ∧ Hid (xs.take k = ys.take k) ∧ Hid (Below w.heap.size w wr)) (fun s _ => ((n : Int) - intOf s).toNat)
  case atStart => exact ⟨0, by omega, by simp, hide (by simp), hide (Below.refl _ _)⟩
  case round =>
    obtain ⟨k, hk, rfl, HI, HB⟩ := hrel
    by_cases hlt : k < n
    · have kI : (k : Int) < (n : Int) := by omega
      obtain ⟨y, hy⟩ : ∃ y, xs[k]? = some y := ⟨_, List.getElem?_eq_getElem (by have := unhide HN; omega)⟩
      obtain ⟨z, hz⟩ : ∃ y, ys[k]? = some y := ⟨_, List.getElem?_eq_getElem (by have := unhide HM; omega)⟩
      rcases unhide HX with h0 | ⟨b, off, rfl, hbl, hcs⟩
      · rw [h0] at hy; cases hy
      rcases unhide HY with h0 | ⟨b2, off2, rfl, hbl2, hcs2⟩
      · rw [h0] at hz; cases hz
      have e0 : wr.cell? ⟨b, off + k, none⟩ = some (.int .i64 y) := by rw [(unhide HB).cell (p := ⟨b, _, none⟩) hbl]; exact hcs k y hy
      have f0 : wr.cell? ⟨b2, off2 + k, none⟩ = some (.int .i64 z) := by rw [(unhide HB).cell (p := ⟨b2, _, none⟩) hbl2]; exact hcs2 k z hz
      have HT : Hid (xs[k]? = some y ∧ ys[k]? = some z) := hide ⟨hy, hz⟩
      clear hcs hbl hy hcs2 hbl2 hz
      by_cases hxy : y = z
      · subst hxy
        have HI2 : Hid (xs.take (k + 1) = ys.take (k + 1)) := hide (by rw [List.take_add_one, List.take_add_one, (unhide HT).1, (unhide HT).2, unhide HI])
        clear HI HT
        go_wp2_with fail
        go_quiet (fail)
        have HB2 := hide ((unhide HB).trans ((Joins.below_draws _ _ nq).mono (unhide HB).size))
        clear HB
        go_wp2_with fail
        exact ⟨⟨k + 1, by omega, by simp, HI2, HB2⟩, by simp [intOf]; omega⟩
      · have hb : (y == z) = false := by simp [hxy]
        have HF : Hid (decide (xs = ys) = false) := hide (by simp; intro e; have := unhide HT; rw [e] at this; apply hxy; simpa using this.1.symm.trans this.2)
        clear HI HT
        go_wp2_with fail
        go_quiet (fail)
        have HB2 := hide ((unhide HB).trans ((Joins.below_draws _ _ nq).mono (unhide HB).size))
        clear HB
        go_wp2_with fail
        go_ret
        exact ⟨by rw [unhide HF]; rfl, unhide HB2⟩
    · obtain rfl : k = n := by omega
      have kI : ¬ (k : Int) < (k : Int) := by omega
      have HI2 : Hid (decide (xs = ys) = true) := hide (by have := unhide HI; rw [List.take_of_length_le (by rw [unhide HN]; exact Nat.le_refl _), List.take_of_length_le (by rw [unhide HM]; exact Nat.le_refl _)] at this; simp [this])
      clear HI
      go_wp2_with fail
      go_ret
      exact ⟨by rw [unhide HI2]; rfl, unhide HB⟩
theorem open_gaps {H : Type} {enc : TypeId × Value → H} {W : World} {b0 base : Nat} {spare : Nat → Bool} {held : Bool} {v : Value} {d : DataW H} {p : List MemPlace}
    (hv : Value.okWide Try.prog W .any b0 41 v) (h : DataW.Trod enc Try.prog W base spare held 41 v d p) : ∃ xs, IntsAt W v xs := by
  obtain ⟨a, n, c, rfl⟩ := okWide_slice Try.underlying41 hv
  obtain ⟨fuel, hf⟩ := h
  rcases open_ints Try.underlying41 Try.underlying3 (by kernel_rfl) hf with ⟨hcs, _⟩ | ⟨a, len, cap, zs, hcs, _, hl, hm, hz, _, hx, _⟩
  · simp [Value.cells] at hcs
    obtain ⟨rfl, rfl, rfl⟩ := hcs
    exact ⟨[], none, 0, rfl, Nat.le_refl _, Nat.zero_le _, .inl rfl⟩
  · simp [Value.cells] at hcs
    obtain ⟨rfl, rfl, rfl⟩ := hcs
    have hn : n ≤ zs.length := by rw [hz]; split <;> omega
    have hL : (zs.take n).length = n := by rw [List.length_take]; omega
    refine ⟨zs.take n, some a, c, by rw [hL], by rw [hL]; exact hl, hm, ?_⟩
    by_cases h0 : n = 0
    · exact .inl (by simp [h0])
    · right
      have q0 := hx 0 (by omega)
      obtain ⟨b, off, spot⟩ := a
      have hspot : spot = none := by simpa [Addr.add] using World.cell?_spot q0
      subst hspot
      refine ⟨b, off, rfl, lt_of_cell q0, fun i q hi => ?_⟩
      rw [List.getElem?_take] at hi
      split at hi
      · have := hx i (by have := (List.getElem?_eq_some_iff.1 hi).1; omega)
        rw [add_plain, List.getD_eq_getElem?_getD, hi] at this
        exact this
      · cases hi
end Go.Proofs.Ythgacmlbmcehmaa
