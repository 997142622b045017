/- A digest that took nothing; bytes cloned; sums that are the same. -/
import Derived.Test.YtlgbkkfkobijpaaDoorAwake
import Derived.Test.YtlgbkkfkobijpaaDoorLaid
import Derived.ChangeKeysEq
namespace Go.Proofs.YtlgbkkfkobijpaaDoor
set_option linter.unusedVariables false
set_option linter.unusedSimpArgs false
open Go.ChangeShapes Go.WideShapes Go.ChangeAt Go.RowKit Go.Joins

theorem bv_one (l : List Nat) : ∀ u ∈ bv l, u.oneCell' = true := by
  intro u hu
  simp only [bv, List.mem_map] at hu
  obtain ⟨x, _, rfl⟩ := hu
  rfl
theorem bv_get {l : List Nat} {j : Nat} {u : Value} (h : (bv l)[j]? = some u) : ∃ y, l[j]? = some y ∧ u = .int .u8 (y : Int) := by
  rw [bv, List.getElem?_map] at h
  obtain ⟨y, hy, rfl⟩ := Option.map_eq_some_iff.1 h
  exact ⟨y, hy, rfl⟩

theorem Byt.of_own {w : World} {base : Nat} {v : Value} {l : List Nat} (h : w.ownsRow base 5 1 v l.length (bv l)) : Byt w v l := by
  have h0 := h
  obtain ⟨_, ⟨rfl, hz⟩ | ⟨g, cap, cur, rfl, hg, hh, h1, h2, h3, h4⟩⟩ := h
  · exact .inl ⟨rfl, List.length_eq_zero_iff.1 hz⟩
  · refine .inr ⟨⟨g, 0, none⟩, cap, rfl, h1, h2, fun i y hy => ?_⟩
    exact h0.cells rfl i (.int .u8 (y : Int)) (by rw [bv, List.getElem?_map, hy]; rfl)
theorem Byt.news {w : World} {a : Addr} {l : List Nat} (h : ∀ (i y : Nat), l[i]? = some y → w.cell? (a.add i) = some (.int .u8 (y : Int))) : ∀ j u, (bv l)[j]? = some u → w.cell? (a.add j) = some u := by
  intro j u hj
  obtain ⟨y, hy, rfl⟩ := bv_get hj
  exact h j y hy

theorem own_cast {w : World} {b n m : Nat} {v : Value} {xs ys : List Value} (h : w.ownsRow b 5 1 v n xs) (hn : n = m) (hx : xs = ys) : w.ownsRow b 5 1 v m ys := by subst hn hx; exact h

theorem info5 : (Tryd.prog.info? 5).map (fun i => (i.zero, i.size, i.bytes)) = some (some (.int .u8 0), 1, 1) := by kernel_rfl

set_option maxHeartbeats 1000000 in
theorem clone_any (v : Value) (l : List Nat) (w : World) (hv : Byt w v l) (hl : l.length ≤ 1000000000) :
    Calls Tryd.prog 11 #[v] w fun e w' => ∃ v', e = .returned v' ∧ w'.ownsRow w.heap.size 5 1 v' l.length (bv l) ∧ Below w.heap.size w w' := by
  obtain ⟨i0, hi, hz0, hz1, hz2⟩ := info_parts info5
  rcases hv with ⟨rfl, rfl⟩ | ⟨a, cap, rfl, h1, h2, h3⟩
  · have hq := fun W => Go.run_eql_slice_nil (P := Tryd.prog) W 22 5 none 0 0 Tryd.underlying22
    go_enter Tryd.func11, Tryd.ntmps11
    go_wp2
    go_ret
    exact ⟨_, rfl, ⟨rfl, .inl ⟨rfl, rfl⟩⟩, Below.refl _ _⟩
  · have hq := fun W => Go.run_eql_slice_nil (P := Tryd.prog) W 22 5 (some a) l.length cap Tryd.underlying22
    have hB : Below w.heap.size w (w.alloc (.cells #[] 5)) := (Below.refl _ _).alloc (Nat.le_refl _) _
    have hnews := Byt.news h3
    generalize hn : l.length = n at *
    have HN := hide hnews
    have HL := hide hn
    clear hnews h3 hn
    have hown : (w.alloc (.cells #[] 5)).ownsRow w.heap.size 5 1 (.slice (some ⟨w.heap.size, 0, none⟩) 0 0) 0 [] := World.ownsRow_made w #[] 0 (Nat.le_refl _) (Nat.zero_le _) rfl
    go_enter Tryd.func11, Tryd.ntmps11
    go_wp2_with (at_builtin; refine wpList_append_own _ rfl _ _ 22 rfl w.heap.size 5 i0 (.int .u8 0) 1 1 Tryd.underlying22 hi hz0 hz1 hz2 rfl (by decide) _ _ _ rfl hown a n cap (bv l) rfl ?c0 ?c1 ?c2 ?c3 ?c4 ?c5 ?_)
    case c0 => rw [bv_len, unhide HL]; omega
    case c1 =>
      intro j u hj
      have := unhide HN j u hj
      exact cell_keep hB (lt_of_cell this) this
    case c2 => exact bv_one l
    case c3 => unfold maxLen; omega
    case c4 => omega
    case c5 => simp
    intro v' w2 hown' hgrow' _
    go_wp2
    go_ret
    refine ⟨_, rfl, ?_, ?_⟩
    · simpa using hown'
    · exact hB.grown hgrow' hB.size (fun k hk => by simp [Value.ownBlock] at hk; omega)

theorem open_bytes {H : Type} {enc : TypeId × Value → H} {W : World} {b0 base : Nat} {spare : Nat → Bool} {held : Bool} {v : Value} {d : DataW H} {p : List MemPlace}
    (hv : Value.okWide Tryd.prog W .any b0 22 v) (h : DataW.Trod enc Tryd.prog W base spare held 22 v d p) : ∃ l : List Nat, Byt W v l ∧ ∀ y ∈ l, y < 256 := by
  obtain ⟨a, n, c, rfl⟩ := okWide_slice Tryd.underlying22 hv
  obtain ⟨fuel, hf⟩ := h
  rcases open_ints Tryd.underlying22 Tryd.underlying5 cells5 hf with ⟨hcs, _⟩ | ⟨a, len, cap, zs, hcs, _, hl, hm, hz, _, hc, hw⟩
  · simp [Value.cells] at hcs
    obtain ⟨rfl, rfl, rfl⟩ := hcs
    exact ⟨[], .inl ⟨rfl, rfl⟩, fun y hy => by cases hy⟩
  · simp [Value.cells] at hcs
    obtain ⟨rfl, rfl, rfl⟩ := hcs
    have hlz : n ≤ zs.length := by rw [hz]; split <;> omega
    have hb : ∀ z ∈ zs, 0 ≤ z ∧ z < 256 := fun z hz' => by
      have := bounds_u8 (hw z hz')
      omega
    refine ⟨(zs.take n).map Int.toNat, .inr ⟨a, c, by simp [Nat.min_eq_left hlz], by simp [Nat.min_eq_left hlz]; exact hl, hm, fun i y hy => ?_⟩, fun y hy => ?_⟩
    · rw [List.getElem?_map] at hy
      obtain ⟨z, hz1, rfl⟩ := Option.map_eq_some_iff.1 hy
      have hi : i < n := by
        by_cases hi : i < n
        · exact hi
        · rw [List.getElem?_eq_none (by rw [List.length_take]; omega)] at hz1; cases hz1
      rw [List.getElem?_take_of_lt hi] at hz1
      rw [hc i (by omega), List.getD_eq_getElem?_getD, hz1]
      have := hb z (List.mem_of_getElem? hz1)
      simp
      omega
    · obtain ⟨z, hz1, rfl⟩ := List.mem_map.1 hy
      have := hb z (List.mem_of_mem_take hz1)
      omega


theorem items_same (d : Nat) (l : List Nat) (w : World) : ∀ (is : List Nat), (∀ i ∈ is, i < l.length) → (Op.eqItems (d + 1) 5 1 (bv l).toArray (bv l).toArray is).run Tryd.prog w = .ok true w
  | [], _ => by simp [Op.eqItems]
  | i :: is, h => by
    have hi := h i (by simp)
    have e : (bv l).toArray[i * 1]? = some (.int .u8 (Int.ofNat l[i])) := by simp [bv, hi]
    have hp : (part 5 (bv l).toArray (i * 1)).run Tryd.prog w = .ok (.int .u8 (Int.ofNat l[i])) w := by
      simp [part, isAgg, run_underlying Tryd.underlying5, e]
      rw [Nat.mul_one] at e
      simp at e
      simp [e]
    have ih := items_same d l w is (fun j hj => h j (by simp [hj]))
    simp only [Op.eqItems, Sem.run_bind, hp, Result.andThen_ok, run_equalIn_int w d 5 .u8 .u8 _ _ Tryd.underlying5]
    simpa using ih
theorem eq_sum (l : List Nat) (hl : l.length = 32) (w : World) : (Op.equalIn 10000 27 (.agg (bv l).toArray) (.agg (bv l).toArray)).run Tryd.prog w = .ok true w := by
  obtain ⟨i0, hi, _, _, _⟩ := info_parts info5
  rw [show 10000 = 9999 + 1 from rfl, run_equalIn_array w 9999 _ _ Tryd.underlying27 hi]
  rw [cells5]
  exact items_same 9998 l w _ (fun i hi => by rw [hl]; exact List.mem_range.1 hi)

set_option maxRecDepth 100000 in
set_option maxHeartbeats 4000000 in
theorem new_any (w : World) (hT : Tabs w) : Calls Tryd.prog 23 #[] w fun e w' => ∃ g, e = .returned (.pointer (some ⟨g, 0, none⟩)) ∧ w.heap.size ≤ g ∧ Dg w' g (stW 0) [] ∧ Below w.heap.size w w' := by
  have hz5 := zero55
  generalize hZ5 : (dcells (List.replicate 8 0) (List.replicate 64 0) 0 0 false).toArray = Z5 at hz5
  have HZ5 : Hid (Z5.size = 75) := hide (by rw [← hZ5, List.size_toArray]; exact dcells_len _ _ _ _ _ (List.length_replicate ..) (List.length_replicate ..))
  have HST := hide (start_any (.slice none 0 0) [] w hT (.inl ⟨rfl, rfl⟩) (by simp))
  clear hZ5 hT
  go_enter Tryd.func23, Tryd.ntmps23
  go_wp2_with fail
  refine Calls.mono (unhide HST) ?_
  rintro e w2 ⟨rfl, b2⟩
  obtain ⟨D, hD⟩ : ∃ D, (dcells (stW ([] : List Nat).length) (padK []) (kheld []) 0 true).toArray = D := ⟨_, rfl⟩
  have HDS : Hid (D.size = 75) := hide (by rw [← hD, List.size_toArray]; exact dcells_len _ _ _ _ _ rfl rfl)
  have HDO : Hid (D.all (·.oneCell') = true) := hide (by rw [← hD]; simp [dcells, u32v, bv, Value.oneCell'])
  have R3 := RowAt.new w2 55 (dcells (stW ([] : List Nat).length) (padK []) (kheld []) 0 true)
  rw [hD] at R3
  have HD3 := hide (show Dg (w2.alloc (.cells D 55)) w2.heap.size (stW 0) [] from start_dg (key := []) (fun y hy => by cases hy) (by simp) R3)
  rw [hD]
  have HB3 := hide (b2.alloc b2.size (.cells D 55))
  have HSZ := hide b2.size
  clear R3 hD b2 HST
  go_wp2_with (refine wpList_store_new rfl 55 _ _ rfl D rfl rfl (by rw [z55, unhide HDS]) (by rw [unhide HDS, unhide HZ5]) (unhide HDO) ?_)
  go_ret
  exact ⟨_, rfl, unhide HSZ, unhide HD3, unhide HB3⟩
end Go.Proofs.YtlgbkkfkobijpaaDoor
