/- Lists of bytes that come in, and that are put behind another one. -/
import Derived.Test.YtlgbkkfkobijpaaDoorConcat
import Derived.SizedLaws
namespace Go.Proofs.YtlgbkkfkobijpaaDoor
set_option linter.unusedVariables false
set_option linter.unusedSimpArgs false
open Go.ChangeShapes Go.WideShapes Go.ChangeAt Go.RowKit Go.Joins Go.Deep

theorem list_of {α : Type} {n : Nat} {p : Nat → α → Prop} (h : ∀ i, i < n → ∃ c, p i c) : ∃ L : List α, L.length = n ∧ ∀ i c, L[i]? = some c → p i c := by
  induction n with
  | zero => exact ⟨[], rfl, fun i c hc => by simp at hc⟩
  | succ n ih =>
    obtain ⟨L, hL, hp⟩ := ih (fun i hi => h i (by omega))
    obtain ⟨c, hc⟩ := h n (by omega)
    refine ⟨L ++ [c], by simp [hL], fun i c' hc' => ?_⟩
    rw [List.getElem?_append] at hc'
    split at hc'
    · exact hp i c' hc'
    · have hi : i = n := by
        by_cases hi : i - L.length = 0
        · omega
        · obtain ⟨q, hq⟩ := Nat.exists_eq_succ_of_ne_zero hi
          rw [hq] at hc'; simp at hc'
      subst hi
      rw [hL, Nat.sub_self] at hc'
      simp at hc'
      subst hc'
      exact hc

theorem bytes_of {H : Type} {enc : TypeId × Value → H} {W : World} {base fuel : Nat} {spare : Nat → Bool} {held : Bool} {v : Value} {x : DataW H × List MemPlace}
    (hf : DataW.trod enc Tryd.prog W base spare held fuel 22 [v] = some x) : ∃ l : List Nat, Byt W v l ∧ ∀ y ∈ l, y < 256 := by
  rcases open_ints Tryd.underlying22 Tryd.underlying5 cells5 hf with ⟨hcs, _⟩ | ⟨a, n, cap, zs, hcs, _, hl, hm, hz, _, hc, hw⟩
  · simp at hcs
    subst hcs
    exact ⟨[], .inl ⟨rfl, rfl⟩, fun y hy => by cases hy⟩
  · simp at hcs
    subst hcs
    have hlz : n ≤ zs.length := by rw [hz]; split <;> omega
    have hb : ∀ z ∈ zs, 0 ≤ z ∧ z < 256 := fun z hz' => by
      have := bounds_u8 (hw z hz')
      omega
    refine ⟨(zs.take n).map Int.toNat, .inr ⟨a, cap, by simp [Nat.min_eq_left hlz], by simp [Nat.min_eq_left hlz]; exact hl, hm, fun i y hy => ?_⟩, fun y hy => ?_⟩
    · rw [List.getElem?_map] at hy
      obtain ⟨z, hz1, rfl⟩ := Option.map_eq_some_iff.1 hy
      have hi : i < n := by
        by_cases hi : i < n
        · exact hi
        · rw [List.getElem?_eq_none (by rw [List.length_take]; omega)] at hz1; cases hz1
      rw [List.getElem?_take_of_lt hi] at hz1
      rw [hc i (by omega), List.getD_eq_getElem?_getD, hz1]
      have := hb z (List.mem_of_getElem? hz1)
      simp
      omega
    · obtain ⟨z, hz1, rfl⟩ := List.mem_map.1 hy
      have := hb z (List.mem_of_mem_take hz1)
      omega

theorem open_lists {H : Type} {enc : TypeId × Value → H} {W : World} {b0 base : Nat} {spare : Nat → Bool} {held : Bool} {v : Value} {d : DataW H} {p : List MemPlace}
    (hv : Value.okWide Tryd.prog W .any b0 42 v) (h : DataW.Trod enc Tryd.prog W base spare held 42 v d p) :
    ∃ P : List (Value × List Nat), LL W v P ∧ (∀ x ∈ P, U8 x.2) ∧ (P = [] ∨ ∃ elems sp, d = .slice elems sp ∧ P.length ≤ elems.length + sp.length) := by
  obtain ⟨a, n, c, rfl⟩ := okWide_slice Tryd.underlying42 hv
  obtain ⟨fuel, hf⟩ := h
  rcases open_slice Tryd.underlying42 hf with h0 | ⟨a, len, cap, m, n', D, Pl, hcs, hb, hl, hm, hmm, hdd, hx⟩
  · have hcs := h0.1
    simp [Value.cells] at hcs
    obtain ⟨rfl, rfl, rfl⟩ := hcs
    exact ⟨[], ⟨none, 0, rfl, ⟨Nat.le_refl _, Nat.zero_le _⟩, fun i u l hi => by simp at hi⟩, (fun x hx => by cases hx), .inl rfl⟩
  · simp [Value.cells] at hcs
    obtain ⟨rfl, rfl, rfl⟩ := hcs
    have hlm : n ≤ m := by rw [hmm]; split <;> omega
    have each : ∀ i, i < n → ∃ q : Value × List Nat, (Byt W q.1 q.2 ∧ ∀ y ∈ q.2, y < 256) ∧ W.cell? (a.add i) = some q.1 := by
      intro i hi
      obtain ⟨cs', h1, h2⟩ := hx i (by omega)
      rw [show Tryd.prog.cellsOf 22 = 1 by kernel_rfl] at h1
      obtain ⟨_, hlen, hcell⟩ := World.cells?_some h1
      match cs', hlen with
      | [v0], _ =>
        obtain ⟨l, hbyt, h256⟩ := bytes_of h2
        have e0 := hcell 0 (by omega)
        rw [Go.Proofs.YtlgbkkfkobijpaaDoor.add_add] at e0
        exact ⟨(v0, l), ⟨hbyt, h256⟩, by simpa using e0⟩
    obtain ⟨L, hL, hp⟩ := list_of each
    refine ⟨L, ⟨some a, c, by rw [hL], ⟨by rw [hL]; exact hl, hm⟩, fun i u l hi => ⟨⟨a, rfl, (hp i (u, l) hi).2⟩, (hp i (u, l) hi).1.1⟩⟩, fun x hx => ?_, ?_⟩
    · obtain ⟨i, hi⟩ := List.getElem?_of_mem hx
      exact (hp i x hi).1.2
    · right
      injection hdd with hq _
      exact ⟨_, _, hq, by simp [hL]⟩

theorem info22 : (Tryd.prog.info? 22).map (fun i => (i.zero, i.size, i.bytes)) = some (some (.slice none 0 0), 1, 24) := by kernel_rfl
theorem LL.cons {w : World} {base : Nat} {ad : Option Addr} {cap N : Nat} {kv : Value} {key : List Nat} {P : List (Value × List Nat)} (ho : w.ownsRow base 22 1 (.slice ad (1 + N) cap) (1 + N) ([kv] ++ P.map (·.1))) (hN : P.length = N) (hk : Byt w kv key) (hP : ∀ x ∈ P, Byt w x.1 x.2) : LL w (.slice ad (1 + N) cap) ((kv, key) :: P) := by
  have h0 := ho
  obtain ⟨_, ⟨he, hz⟩ | ⟨g, c, cur, he, hg, hh, h1, h2, h3, h4⟩⟩ := ho
  · omega
  · injection he with e1 e2 e3
    subst e1 e3
    refine ⟨_, _, by rw [List.length_cons, hN, Nat.add_comm], ⟨by rw [List.length_cons, hN]; omega, h2⟩, fun i u l hi => ?_⟩
    have hc := h0.cells (g := g) rfl i u (by
      match i, hi with
      | 0, hi => simp at hi; simp [hi.1]
      | i + 1, hi => simp at hi; simp [hi])
    refine ⟨⟨_, rfl, hc⟩, ?_⟩
    match i, hi with
    | 0, hi =>
      obtain ⟨rfl, rfl⟩ : kv = u ∧ key = l := by simpa using hi
      exact hk
    | i + 1, hi => exact hP (u, l) (List.mem_of_getElem? (by simpa using hi))
theorem LL.each {w : World} {v : Value} {P : List (Value × List Nat)} (h : LL w v P) : ∀ x ∈ P, Byt w x.1 x.2 := by
  intro x hx
  obtain ⟨a, cap, _, _, h1⟩ := h
  obtain ⟨i, hi⟩ := List.getElem?_of_mem hx
  exact (h1 i x.1 x.2 hi).2
theorem LL.src {w : World} {a : Option Addr} {N cap : Nat} {P : List (Value × List Nat)} (h : LL w (.slice a N cap) P) (hN : P.length = N) : (a = none → N = 0) ∧ ∀ b, a = some b → ∀ j u, (P.map (·.1))[j]? = some u → w.cell? (b.add j) = some u := by
  obtain ⟨a', cap', he, _, h1⟩ := h
  injection he with e1 e2 e3
  subst e1 e3
  refine ⟨fun ha => ?_, fun b hb j u hj => ?_⟩
  · by_cases hP : P = []
    · subst hP; simpa using hN.symm
    · obtain ⟨⟨u, l⟩, t, rfl⟩ := List.exists_cons_of_ne_nil hP
      obtain ⟨⟨b, hb, _⟩, _⟩ := h1 0 u l rfl
      rw [ha] at hb
      cases hb
  · rw [List.getElem?_map] at hj
    obtain ⟨⟨u', l⟩, hx, rfl⟩ := Option.map_eq_some_iff.1 hj
    obtain ⟨⟨b', hb', hc⟩, _⟩ := h1 j u' l hx
    rw [hb] at hb'
    injection hb' with hb'
    subst hb'
    exact hc
theorem byt_one {w : World} {v : Value} {l : List Nat} (h : Byt w v l) : v.oneCell' = true := by
  obtain ⟨a, c, rfl⟩ := byt_shape h
  rfl
end Go.Proofs.YtlgbkkfkobijpaaDoor
