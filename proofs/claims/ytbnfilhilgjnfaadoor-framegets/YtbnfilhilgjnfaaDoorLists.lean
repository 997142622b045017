/- Lists of bytes that come in, and that are put behind another one. -/
import Derived.Test.YtbnfilhilgjnfaaDoorConcat
import Derived.SizedLaws
namespace Go.Proofs.YtbnfilhilgjnfaaDoor
set_option linter.unusedVariables false
set_option linter.unusedSimpArgs false
open Go.ChangeShapes Go.WideShapes Go.ChangeAt Go.RowKit Go.Joins Go.Deep

theorem list_of {α : Type} {n : Nat} {p : Nat → α → Prop} (h : ∀ i, i < n → ∃ c, p i c) : ∃ L : List α, L.length = n ∧ ∀ i c, L[i]? = some c → p i c := by
  induction n with
  | zero => exact ⟨[], rfl, fun i c hc => by simp at hc⟩
  | succ n ih =>
    obtain ⟨L, hL, hp⟩ := ih (fun i hi => h i (by omega))
    obtain ⟨c, hc⟩ := h n (by omega)
    refine ⟨L ++ [c], by simp [hL], fun i c' hc' => ?_⟩
    rw [List.getElem?_append] at hc'
    split at hc'
    · exact hp i c' hc'
    · have hi : i = n := by
        by_cases hi : i - L.length = 0
        · omega
        · obtain ⟨q, hq⟩ := Nat.exists_eq_succ_of_ne_zero hi
          rw [hq] at hc'; simp at hc'
      subst hi
      rw [hL, Nat.sub_self] at hc'
      simp at hc'
      subst hc'
      exact hc

theorem info22 : (Tryd.prog.info? 30).map (fun i => (i.zero, i.size, i.bytes)) = some (some (.slice none 0 0), 1, 24) := by kernel_rfl
theorem LL.cons {w : World} {base : Nat} {ad : Option Addr} {cap N : Nat} {kv : Value} {key : List Nat} {P : List (Value × List Nat)} (ho : w.ownsRow base 30 1 (.slice ad (1 + N) cap) (1 + N) ([kv] ++ P.map (·.1))) (hN : P.length = N) (hk : Byt w kv key) (hP : ∀ x ∈ P, Byt w x.1 x.2) : LL w (.slice ad (1 + N) cap) ((kv, key) :: P) := by
  have h0 := ho
  obtain ⟨_, ⟨he, hz⟩ | ⟨g, c, cur, he, hg, hh, h1, h2, h3, h4⟩⟩ := ho
  · omega
  · injection he with e1 e2 e3
    subst e1 e3
    refine ⟨_, _, by rw [List.length_cons, hN, Nat.add_comm], ⟨by rw [List.length_cons, hN]; omega, h2⟩, fun i u l hi => ?_⟩
    have hc := h0.cells (g := g) rfl i u (by
      match i, hi with
      | 0, hi => simp at hi; simp [hi.1]
      | i + 1, hi => simp at hi; simp [hi])
    refine ⟨⟨_, rfl, hc⟩, ?_⟩
    match i, hi with
    | 0, hi =>
      obtain ⟨rfl, rfl⟩ : kv = u ∧ key = l := by simpa using hi
      exact hk
    | i + 1, hi => exact hP (u, l) (List.mem_of_getElem? (by simpa using hi))
theorem LL.each {w : World} {v : Value} {P : List (Value × List Nat)} (h : LL w v P) : ∀ x ∈ P, Byt w x.1 x.2 := by
  intro x hx
  obtain ⟨a, cap, _, _, h1⟩ := h
  obtain ⟨i, hi⟩ := List.getElem?_of_mem hx
  exact (h1 i x.1 x.2 hi).2
theorem LL.src {w : World} {a : Option Addr} {N cap : Nat} {P : List (Value × List Nat)} (h : LL w (.slice a N cap) P) (hN : P.length = N) : (a = none → N = 0) ∧ ∀ b, a = some b → ∀ j u, (P.map (·.1))[j]? = some u → w.cell? (b.add j) = some u := by
  obtain ⟨a', cap', he, _, h1⟩ := h
  injection he with e1 e2 e3
  subst e1 e3
  refine ⟨fun ha => ?_, fun b hb j u hj => ?_⟩
  · by_cases hP : P = []
    · subst hP; simpa using hN.symm
    · obtain ⟨⟨u, l⟩, t, rfl⟩ := List.exists_cons_of_ne_nil hP
      obtain ⟨⟨b, hb, _⟩, _⟩ := h1 0 u l rfl
      rw [ha] at hb
      cases hb
  · rw [List.getElem?_map] at hj
    obtain ⟨⟨u', l⟩, hx, rfl⟩ := Option.map_eq_some_iff.1 hj
    obtain ⟨⟨b', hb', hc⟩, _⟩ := h1 j u' l hx
    rw [hb] at hb'
    injection hb' with hb'
    subst hb'
    exact hc
theorem byt_one {w : World} {v : Value} {l : List Nat} (h : Byt w v l) : v.oneCell' = true := by
  obtain ⟨a, c, rfl⟩ := byt_shape h
  rfl
end Go.Proofs.YtbnfilhilgjnfaaDoor
