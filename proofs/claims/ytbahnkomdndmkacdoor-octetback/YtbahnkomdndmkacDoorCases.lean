/- What a sum finds, and what begins with a block. -/
import Derived.Test.YtbahnkomdndmkacDoorBads
import Derived.Test.YtbahnkomdndmkacDoorLaid
import Derived.ChangeSlices
namespace Go.Proofs.YtbahnkomdndmkacDoor
set_option linter.unusedVariables false
set_option linter.unusedSimpArgs false
open Go.ChangeShapes Go.WideShapes Go.ChangeAt Go.RowKit Go.Joins

theorem open_i64 {H : Type} {enc : TypeId × Value → H} {W : World} {b0 base : Nat} {spare : Nat → Bool} {held : Bool} {v : Value} {d : DataW H} {p : List MemPlace}
    (hv : Value.okWide Tryd.prog W .any b0 3 v) (h : DataW.Trod enc Tryd.prog W base spare held 3 v d p) : ∃ n : Int, v = .int .i64 n ∧ -9223372036854775808 ≤ n ∧ n ≤ 9223372036854775807 := by
  obtain ⟨n, rfl, _, _, wn⟩ := open_int Tryd.underlying3 hv h
  exact ⟨n, rfl, bounds_i64 wn⟩
theorem open_bytes {H : Type} {enc : TypeId × Value → H} {W : World} {b0 base : Nat} {spare : Nat → Bool} {held : Bool} {v : Value} {d : DataW H} {p : List MemPlace}
    (hv : Value.okWide Tryd.prog W .any b0 22 v) (h : DataW.Trod enc Tryd.prog W base spare held 22 v d p) : ∃ l : List Nat, Byt W v l ∧ ∀ y ∈ l, y < 256 := by
  obtain ⟨a, n, c, rfl⟩ := okWide_slice Tryd.underlying22 hv
  obtain ⟨fuel, hf⟩ := h
  rcases open_ints Tryd.underlying22 Tryd.underlying5 cells5 hf with ⟨hcs, _⟩ | ⟨a, len, cap, zs, hcs, _, hl, hm, hz, _, hc, hw⟩
  · simp [Value.cells] at hcs
    obtain ⟨rfl, rfl, rfl⟩ := hcs
    exact ⟨[], .inl ⟨rfl, rfl⟩, fun y hy => by cases hy⟩
  · simp [Value.cells] at hcs
    obtain ⟨rfl, rfl, rfl⟩ := hcs
    have hlz : n ≤ zs.length := by rw [hz]; split <;> omega
    have hb : ∀ z ∈ zs, 0 ≤ z ∧ z < 256 := fun z hz' => by
      have := bounds_u8 (hw z hz')
      omega
    refine ⟨(zs.take n).map Int.toNat, .inr ⟨a, c, by simp [Nat.min_eq_left hlz], by simp [Nat.min_eq_left hlz]; exact hl, hm, fun i y hy => ?_⟩, fun y hy => ?_⟩
    · rw [List.getElem?_map] at hy
      obtain ⟨z, hz1, rfl⟩ := Option.map_eq_some_iff.1 hy
      have hi : i < n := by
        by_cases hi : i < n
        · exact hi
        · rw [List.getElem?_eq_none (by rw [List.length_take]; omega)] at hz1; cases hz1
      rw [List.getElem?_take_of_lt hi] at hz1
      rw [hc i (by omega), List.getD_eq_getElem?_getD, hz1]
      have := hb z (List.mem_of_getElem? hz1)
      simp
      omega
    · obtain ⟨z, hz1, rfl⟩ := List.mem_map.1 hy
      have := hb z (List.mem_of_mem_take hz1)
      omega

theorem cut_j (k : Int) (n : Nat) (h : 12 ≤ n) (h2 : n ≤ 16396) : ∃ j : Nat, wrap64 ((IntKind.u64.wrap k).tmod (n : Int)) = (j : Int) ∧ j < n := by
  have h0 : 0 ≤ IntKind.u64.wrap k := wrap_u64_nonneg k
  rw [Int.tmod_eq_emod_of_nonneg h0]
  have g1 := Int.emod_nonneg (IntKind.u64.wrap k) (show (n : Int) ≠ 0 by omega)
  have g2 := Int.emod_lt_of_pos (IntKind.u64.wrap k) (show (0 : Int) < (n : Int) by omega)
  generalize IntKind.u64.wrap k % (n : Int) = x at *
  refine ⟨x.toNat, ?_, by omega⟩
  unfold wrap64
  omega
theorem and_top (a : Nat) (ha : a < 4294967296) : ((a &&& 2147483648) ≠ 0) ↔ 2147483648 ≤ a := by
  constructor
  · intro h
    by_cases hlt : 2147483648 ≤ a
    · exact hlt
    · exfalso
      apply h
      apply Nat.eq_of_testBit_eq
      intro i
      rw [Nat.testBit_and, Nat.zero_testBit]
      by_cases hi : i = 31
      · subst hi
        rw [Nat.testBit_lt_two_pow (show a < 2 ^ 31 by omega)]
        rfl
      · rw [show (2147483648 : Nat) = 2 ^ 31 by decide, Nat.testBit_two_pow_of_ne (Ne.symm hi)]
        simp
  · intro h e
    have t : (a &&& 2147483648).testBit 31 = true := by
      rw [Nat.testBit_and, Nat.testBit_of_two_pow_le_and_two_pow_add_one_gt (i := 31) (by omega) (by omega)]
      rfl
    rw [e] at t
    simp at t
def stepN (a : Nat) : Nat := if 2147483648 ≤ a then (a * 2 % 4294967296) ^^^ 2168537515 else a * 2 % 4294967296
theorem step_nat (a : Nat) (ha : a < 4294967296) : stepI (a : Int) = (stepN a : Nat) := by
  have e0 : bits .and .u32 (a : Int) 2147483648 = ((a &&& 2147483648 : Nat) : Int) := u32_and_nat a 2147483648 ha (by decide)
  have e1 : ((a : Int) * 2 % 4294967296) = ((a * 2 % 4294967296 : Nat) : Int) := by omega
  unfold stepI stepN
  rw [e0, e1]
  have := and_top a ha
  by_cases h : 2147483648 ≤ a
  · have h2 := this.2 h
    rw [if_pos h, if_pos (by simp; omega)]
    exact u32_xor_nat _ 2168537515 (by omega) (by decide)
  · have h2 : (a &&& 2147483648) = 0 := by
      by_cases h3 : (a &&& 2147483648) = 0
      · exact h3
      · exact absurd (this.1 h3) h
    rw [if_neg h, h2, if_neg (by decide)]
theorem xor_odd (x : Nat) (hx : x % 2 = 0) : (x ^^^ 2168537515) % 2 = 1 := by
  have t : (x ^^^ 2168537515).testBit 0 = true := by
    rw [Nat.testBit_xor]
    have : x.testBit 0 = false := by rw [Nat.testBit_zero]; simp; omega
    rw [this]
    rfl
  rw [Nat.testBit_zero] at t
  simpa using t
theorem xor_cancel {a b c : Nat} (h : a ^^^ c = b ^^^ c) : a = b := by
  have := congrArg (· ^^^ c) h
  simpa [Nat.xor_assoc] using this
theorem stepN_inj {a b : Nat} (ha : a < 4294967296) (hb : b < 4294967296) (h : stepN a = stepN b) : a = b := by
  unfold stepN at h
  have oa := xor_odd (a * 2 % 4294967296) (by omega)
  have ob := xor_odd (b * 2 % 4294967296) (by omega)
  split at h <;> split at h
  · have := xor_cancel h
    omega
  · rw [h] at oa; omega
  · rw [← h] at ob; omega
  · omega
theorem step_inj {d e : Int} (hd : R32 d) (he : R32 e) (h : stepI d = stepI e) : d = e := by
  obtain ⟨a, rfl⟩ := Int.eq_ofNat_of_zero_le hd.1
  obtain ⟨b, rfl⟩ := Int.eq_ofNat_of_zero_le he.1
  have ha := hd.2
  have hb := he.2
  rw [step_nat a (by omega), step_nat b (by omega)] at h
  rw [stepN_inj (by omega) (by omega) (Int.ofNat.inj h)]
theorem mix_steps {c d x y : Int} (hc : R32 c) (hd : R32 d) (hx : 0 ≤ x ∧ x < 256) (hy : 0 ≤ y ∧ y < 256) : ∀ k, mixTo c x k = mixTo d y k → mixTo c x 0 = mixTo d y 0
  | 0, h => h
  | k + 1, h => mix_steps hc hd hx hy k (step_inj (mix_r32 hc hx k) (mix_r32 hd hy k) h)
theorem xor_left {a b c : Int} (ha : R32 a) (hb : R32 b) (hc : R32 c) (h : bits .xor .u32 a c = bits .xor .u32 b c) : a = b := by
  rw [u32_xor a c ha.1 ha.2 hc.1 hc.2, u32_xor b c hb.1 hb.2 hc.1 hc.2] at h
  have := xor_cancel (Int.ofNat.inj h)
  have h1 := ha.1
  have h2 := hb.1
  omega
theorem xor_right {a b c : Int} (ha : R32 a) (hb : R32 b) (hc : R32 c) (h : bits .xor .u32 c a = bits .xor .u32 c b) : a = b := by
  rw [u32_xor c a hc.1 hc.2 ha.1 ha.2, u32_xor c b hc.1 hc.2 hb.1 hb.2, Nat.xor_comm, Nat.xor_comm c.toNat] at h
  have := xor_cancel (Int.ofNat.inj h)
  have h1 := ha.1
  have h2 := hb.1
  omega
theorem mix_left {c d x : Int} (hc : R32 c) (hd : R32 d) (hx : 0 ≤ x ∧ x < 256) (h : mixTo c x 8 = mixTo d x 8) : c = d :=
  xor_left hc hd ⟨by omega, by omega⟩ (mix_steps hc hd hx hx 8 h)
theorem mix_right {c x y : Int} (hc : R32 c) (hx : 0 ≤ x ∧ x < 256) (hy : 0 ≤ y ∧ y < 256) (h : mixTo c x 8 = mixTo c y 8) : x = y := by
  have := xor_right (c := c) ⟨by omega, by omega⟩ ⟨by omega, by omega⟩ hc (mix_steps hc hc hx hy 8 h)
  omega
theorem fold_inj : ∀ (l : List Nat) (c d : Int), R32 c → R32 d → (∀ y ∈ l, y < 256) → l.foldl (fun (c : Int) (x : Nat) => mixTo c (x : Int) 8) c = l.foldl (fun (c : Int) (x : Nat) => mixTo c (x : Int) 8) d → c = d
  | [], _, _, _, _, _, h => h
  | x :: l, c, d, hc, hd, hl, h => by
    have hx := hl x (List.mem_cons_self ..)
    have hx' : (0 : Int) ≤ (x : Int) ∧ (x : Int) < 256 := ⟨by omega, by omega⟩
    exact mix_left hc hd hx' (fold_inj l _ _ (mix_r32 hc hx' 8) (mix_r32 hd hx' 8) (fun y hy => hl y (List.mem_cons_of_mem _ hy)) h)
theorem fold_r32 : ∀ (l : List Nat) (c : Int), R32 c → (∀ y ∈ l, y < 256) → R32 (l.foldl (fun (c : Int) (x : Nat) => mixTo c (x : Int) 8) c)
  | [], _, hc, _ => hc
  | x :: l, c, hc, hl => by
    have hx := hl x (List.mem_cons_self ..)
    exact fold_r32 l _ (mix_r32 hc ⟨by omega, by omega⟩ 8) (fun y hy => hl y (List.mem_cons_of_mem _ hy))
/-- one byte turned, another sum -/
theorem sum_turned (l : List Nat) (i y : Nat) (hi : i < l.length) (hl : ∀ z ∈ l, z < 256) (hy : y < 256) (h : sumTo (l.set i y) = sumTo l) : l[i]? = some y := by
  have e1 : l = l.take i ++ l[i] :: l.drop (i + 1) := by rw [List.getElem_cons_drop, List.take_append_drop]
  have e2 : l.set i y = l.take i ++ y :: l.drop (i + 1) := by rw [List.set_eq_take_append_cons_drop, if_pos hi]
  have hx : l[i] < 256 := hl _ (List.getElem_mem hi)
  have r := fold_r32 (l.take i) 4294967295 ⟨by decide, by decide⟩ (fun z hz => hl z (List.mem_of_mem_take hz))
  rw [e2] at h
  rw [sumTo, List.foldl_append, List.foldl_cons] at h
  have h2 : sumTo l = (l.drop (i + 1)).foldl (fun (c : Int) (x : Nat) => mixTo c (x : Int) 8) (mixTo ((l.take i).foldl (fun (c : Int) (x : Nat) => mixTo c (x : Int) 8) 4294967295) (l[i] : Nat) 8) := by
    conv => lhs; rw [e1]
    rw [sumTo, List.foldl_append, List.foldl_cons]
  rw [h2] at h
  have h3 := fold_inj _ _ _ (mix_r32 r ⟨by omega, by omega⟩ 8) (mix_r32 r ⟨by omega, by omega⟩ 8) (fun z hz => hl z (List.mem_of_mem_drop hz)) h
  have h4 := mix_right r ⟨by omega, by omega⟩ ⟨by omega, by omega⟩ h3
  rw [List.getElem?_eq_getElem hi]
  exact congrArg some (by omega)
theorem numOf8 (a0 a1 a2 a3 a4 a5 a6 a7 : Nat) (h0 : a0 < 256) (h1 : a1 < 256) (h2 : a2 < 256) (h3 : a3 < 256) (h4 : a4 < 256) (h5 : a5 < 256) (h6 : a6 < 256) (h7 : a7 < 256) :
    num8 (numOf [a0, a1, a2, a3, a4, a5, a6, a7]) = [a0, a1, a2, a3, a4, a5, a6, a7] := by
  simp only [num8, numOf, byteK, List.range, List.range.loop, List.map_cons, List.map_nil, List.foldl_cons, List.foldl_nil]
  simp only [Nat.reduceMul, Nat.reduceSub, Nat.reducePow, List.cons.injEq, and_true]
  refine ⟨?_, ?_, ?_, ?_, ?_, ?_, ?_, ?_⟩ <;> omega
theorem num8_numOf (l : List Nat) (hl : l.length = 8) (h : ∀ y ∈ l, y < 256) : num8 (numOf l) = l := by
  match l, hl with
  | [a0, a1, a2, a3, a4, a5, a6, a7], _ =>
    exact numOf8 a0 a1 a2 a3 a4 a5 a6 a7 (h _ (by simp)) (h _ (by simp)) (h _ (by simp)) (h _ (by simp)) (h _ (by simp)) (h _ (by simp)) (h _ (by simp)) (h _ (by simp))

/-- bytes that begin with a block of m bytes -/
def Good (l : List Nat) (m : Nat) : Prop :=
  numOf (l.take 8) = m ∧ 8 + m + 4 ≤ l.length ∧ m ≤ 16384 ∧ (l.drop (8 + m)).take 4 = sum4 (sumTo (l.take (8 + m)))
theorem cases (l : List Nat) : (∃ m, Good l m) ∨ ∃ e, BadBlock l 0 e := by
  obtain ⟨m, hm⟩ : ∃ m, numOf (l.take 8) = m := ⟨_, rfl⟩
  have hm' : numOf ((l.drop 0).take 8) = m := by rw [List.drop_zero]; exact hm
  by_cases h8 : l.length < 8
  · exact .inr ⟨2, .inl ⟨.inl ⟨by omega, rfl⟩, by decide⟩⟩
  by_cases h1 : 9223372036854775807 < m
  · exact .inr ⟨5, .inl ⟨.inr (.inl ⟨by omega, by rw [hm']; exact h1, rfl⟩), by decide⟩⟩
  by_cases h2 : 16384 < m
  · exact .inr ⟨4, .inl ⟨.inr (.inr (.inl ⟨by omega, by rw [hm']; omega, by rw [hm']; omega, rfl⟩)), by decide⟩⟩
  by_cases h3 : l.length < 8 + m
  · exact .inr ⟨2, .inl ⟨.inr (.inr (.inr ⟨by omega, by rw [hm']; omega, by rw [hm']; omega, by rw [hm']; omega, rfl⟩)), by decide⟩⟩
  by_cases h4 : l.length < 8 + m + 4
  · exact .inr ⟨2, .inr ⟨m, hm', by omega, by omega, .inl ⟨by omega, rfl⟩⟩⟩
  by_cases h5 : (l.drop (8 + m)).take 4 = sum4 (sumTo (l.take (8 + m)))
  · exact .inl ⟨m, hm, by omega, by omega, h5⟩
  · exact .inr ⟨20, .inr ⟨m, hm', by omega, by omega, .inr ⟨by omega, by rw [Nat.zero_add, List.drop_zero]; exact h5, rfl⟩⟩⟩
theorem good_seal {l : List Nat} {m : Nat} (h : Good l m) (h256 : ∀ y ∈ l, y < 256) : l.take (8 + m + 4) = sealB ((l.drop 8).take m) := by
  obtain ⟨hm, hk, hmo, hs⟩ := h
  have hlen : ((l.drop 8).take m).length = m := by rw [List.length_take, List.length_drop]; omega
  have h8 : num8 m = l.take 8 := by
    rw [← hm]
    exact num8_numOf _ (by rw [List.length_take]; omega) (fun y hy => h256 y (List.mem_of_mem_take hy))
  have hp : putB [] ((l.drop 8).take m) = l.take (8 + m) := by
    rw [putB, hlen, List.nil_append, h8, List.take_add]
  rw [sealB, hp, ← hs, List.take_add]
theorem good_len {l : List Nat} {m : Nat} (h : Good l m) (hl : l.length = 8 + m + 4) (h256 : ∀ y ∈ l, y < 256) : l = sealB ((l.drop 8).take m) := by
  have := good_seal h h256
  rwa [List.take_of_length_le (by omega)] at this
theorem sum4_inj {s t : Int} (hs : R32 s) (ht : R32 t) (h : sum4 s = sum4 t) : s = t := by
  obtain ⟨s0, s1⟩ := hs
  obtain ⟨t0, t1⟩ := ht
  simp only [sum4, List.cons.injEq, and_true] at h
  omega
/-- of a block of which one byte is another one there is no block of as many bytes -/
theorem turned_bad (d : List Nat) (i y : Nat) (hd : ∀ z ∈ d, z < 256) (hdl : d.length ≤ 16384) (hi : i < (sealB d).length) (hy : y < 256) (hne : (sealB d)[i]? ≠ some y) (m : Nat) (hg : Good ((sealB d).set i y) m) : 8 + m + 4 ≠ (sealB d).length := by
  intro he
  have h256 := seal_256 hd
  have hset : ∀ z ∈ (sealB d).set i y, z < 256 := fun z hz => by
    rcases List.mem_or_eq_of_mem_set hz with hz | rfl
    · exact h256 z hz
    · exact hy
  have hsl := seal_len d
  have hm : m = d.length := by omega
  subst hm
  have e := good_len hg (by rw [List.length_set]; omega) hset
  obtain ⟨d', hd'⟩ : ∃ d', (((sealB d).set i y).drop 8).take d.length = d' := ⟨_, rfl⟩
  have hlen' : d'.length = d.length := by rw [← hd', List.length_take, List.length_drop, List.length_set]; omega
  have hd'256 : ∀ z ∈ d', z < 256 := fun z hz => hset z (List.mem_of_mem_drop (List.mem_of_mem_take (by rw [hd']; exact hz)))
  rw [hd'] at e
  -- the byte itself
  have hy' : (sealB d')[i]? = some y := by rw [← e, List.getElem?_set_self hi]
  have hother : ∀ j, j ≠ i → (sealB d')[j]? = (sealB d)[j]? := fun j hj => by rw [← e, List.getElem?_set_ne (Ne.symm hj)]
  have hpl : (putB [] d).length = 8 + d.length := by rw [putB_len]; simp
  have hpl' : (putB [] d').length = 8 + d.length := by rw [putB_len]; simp; omega
  have h256p := putB_256 (l := []) (fun y hy => by cases hy) hd
  have h256p' := putB_256 (l := []) (fun y hy => by cases hy) hd'256
  by_cases hz : i < 8 + d.length
  · -- the four bytes of the sum are the same
    have hs : sum4 (sumTo (putB [] d')) = sum4 (sumTo (putB [] d)) := by
      apply List.ext_getElem?
      intro j
      by_cases hj : j < 4
      · have := hother (8 + d.length + j) (by omega)
        rw [sealB, sealB, List.getElem?_append_right (by omega), List.getElem?_append_right (by omega), hpl, hpl'] at this
        rwa [show 8 + d.length + j - (8 + d.length) = j by omega] at this
      · rw [List.getElem?_eq_none (by simp [sum4]; omega), List.getElem?_eq_none (by simp [sum4]; omega)]
    have hs' := sum4_inj (sum_r32 _ h256p') (sum_r32 _ h256p) hs
    have hput : putB [] d' = (putB [] d).set i y := by
      apply List.ext_getElem?
      intro j
      by_cases hj : j < 8 + d.length
      · by_cases hji : j = i
        · subst hji
          rw [List.getElem?_set_self (by omega)]
          rw [sealB, List.getElem?_append_left (by omega)] at hy'
          exact hy'
        · rw [List.getElem?_set_ne (Ne.symm hji)]
          have := hother j hji
          rwa [sealB, sealB, List.getElem?_append_left (by omega), List.getElem?_append_left (by omega)] at this
      · rw [List.getElem?_eq_none (by omega), List.getElem?_eq_none (by rw [List.length_set]; omega)]
    rw [hput] at hs'
    have := sum_turned (putB [] d) i y (by omega) h256p hy hs'
    apply hne
    rw [sealB, List.getElem?_append_left (by omega)]
    exact this
  · have hput : putB [] d' = putB [] d := by
      apply List.ext_getElem?
      intro j
      by_cases hj : j < 8 + d.length
      · have := hother j (by omega)
        rwa [sealB, sealB, List.getElem?_append_left (by omega), List.getElem?_append_left (by omega)] at this
      · rw [List.getElem?_eq_none (by omega), List.getElem?_eq_none (by omega)]
    apply hne
    rw [← hy', sealB, sealB, hput]
end Go.Proofs.YtbahnkomdndmkacDoor
