/- When nothing is lost: sixty rounds; no model in it. -/
import Derived.Test.YtmkpphkdaiienaaCAl
namespace Go.Proofs.Ytmkpphkdaiienaa
set_option linter.unusedVariables false
set_option linter.unusedSimpArgs false
open Go.ChangeShapes Go.WideShapes Go.ChangeAt Go.RowKit Go.Joins Go.Deep

def Rds : Nat → CS → CS → CS → CS → Prop
  | 0, a, b, a', b' => a' = a ∧ b' = b
  | k + 1, a, b, a', b' => ∃ a1 b1 Fa Fb La Lb, Rd a b a1 b1 Fa Fb La Lb ∧ Bd a1 b1 ∧ Rds k a1 b1 a' b'
theorem Rds.split : ∀ (m : Nat) {k : Nat} {a b a' b' : CS}, Rds (m + k) a b a' b' → ∃ a1 b1, Rds m a b a1 b1 ∧ Rds k a1 b1 a' b'
  | 0, k, a, b, a', b', h => ⟨a, b, ⟨rfl, rfl⟩, by rw [Nat.zero_add] at h; exact h⟩
  | m + 1, k, a, b, a', b', h => by
    rw [show m + 1 + k = (m + k) + 1 by omega] at h
    obtain ⟨a1, b1, Fa, Fb, La, Lb, h1, h2, h3⟩ := h
    obtain ⟨a2, b2, h4, h5⟩ := Rds.split m h3
    exact ⟨a2, b2, ⟨a1, b1, Fa, Fb, La, Lb, h1, h2, h4⟩, h5⟩
theorem Rds.bd : ∀ {k : Nat} {a b a' b' : CS}, Rds k a b a' b' → Bd a b → Bd a' b'
  | 0, a, b, a', b', h, hb => by obtain ⟨rfl, rfl⟩ := h; exact hb
  | k + 1, a, b, a', b', h, hb => by
    obtain ⟨a1, b1, Fa, Fb, La, Lb, h1, h2, h3⟩ := h
    exact h3.bd h2
theorem Rds.head : ∀ {k : Nat} {a b a' b' : CS}, Rds k a b a' b' → hd a ≤ hd a' ∧ a'.next = a.next ∧ b.want ≤ b'.want
  | 0, a, b, a', b', h => by obtain ⟨rfl, rfl⟩ := h; exact ⟨Int.le_refl _, rfl, Int.le_refl _⟩
  | k + 1, a, b, a', b', h => by
    obtain ⟨a1, b1, Fa, Fb, La, Lb, h1, h2, h3⟩ := h
    have p := h1.head
    have q := h3.head
    exact ⟨Int.le_trans p.1 q.1, q.2.1.trans p.2.1, Int.le_trans p.2.2 q.2.2⟩
theorem Rds.snoc : ∀ {k : Nat} {a b a1 b1 a' b' : CS} {Fa Fb La Lb : List Fm}, Rds k a b a1 b1 → Rd a1 b1 a' b' Fa Fb La Lb → Bd a' b' → Rds (k + 1) a b a' b'
  | 0, a, b, a1, b1, a', b', Fa, Fb, La, Lb, h, h1, h2 => by obtain ⟨rfl, rfl⟩ := h; exact ⟨a', b', Fa, Fb, La, Lb, h1, h2, rfl, rfl⟩
  | k + 1, a, b, a1, b1, a', b', Fa, Fb, La, Lb, h, h1, h2 => by
    obtain ⟨a2, b2, Ga, Gb, Ma, Mb, h3, h4, h5⟩ := h
    exact ⟨a2, b2, Ga, Gb, Ma, Mb, h3, h4, h5.snoc h1 h2⟩
theorem come_all {n : Int} : ∀ {k : Nat} {a b a' b' : CS}, Rds (k + 1) a b a' b' → Bd a b → (Rec b n ∨ n < hd a ∨ Wt a n (k + 1)) → Rec b' n ∨ n < hd a'
  | 0, a, b, a', b', h, hb, hg => by
    obtain ⟨a1, b1, Fa, Fb, La, Lb, h1, h2, rfl, rfl⟩ := h
    rcases hg with hg | hg | hg
    · exact .inl (h1.rec_ hg)
    · right; have := h1.head.1; omega
    · rcases h1.wt hb h2 hg with h | h | ⟨_, h⟩
      · exact .inl h.1
      · exact .inr h
      · omega
  | k + 1, a, b, a', b', h, hb, hg => by
    obtain ⟨a1, b1, Fa, Fb, La, Lb, h1, h2, h3⟩ := h
    refine come_all h3 h2 ?_
    rcases hg with hg | hg | hg
    · exact .inl (h1.rec_ hg)
    · right; left; have := h1.head.1; omega
    · rcases h1.wt hb h2 hg with h | h | ⟨h, _⟩
      · exact .inl h.1
      · exact .inr (.inl h)
      · exact .inr (.inr h)
theorem wt_start {N : Nat} {a : CS} (h : Inv N 1 a) {n : Int} (h1 : hd a ≤ n) (h2 : n < hd a + 4) (h3 : n < a.next) : Wt a n 3 := by
  obtain ⟨i, hi⟩ : ∃ i : Nat, (i : Int) = n - hd a := ⟨(n - hd a).toNat, by omega⟩
  have hl : i < a.q.length := by unfold hd at hi; omega
  obtain ⟨p, hp⟩ : ∃ p, a.q[i]? = some p := ⟨_, List.getElem?_eq_getElem hl⟩
  refine ⟨i, p, hp, by omega, by rw [h.sq i p hp]; omega, fun _ => ?_⟩
  have := (h.tick p (List.mem_of_getElem? hp)).1
  omega
theorem want_ge {H : Int} {a b a' b' : CS} (h : Rds 3 a b a' b') (hb : Bd a b) (h1 : H ≤ hd a + 4) (h2 : H ≤ a.next) : H ≤ b'.want := by
  rcases Int.lt_or_le b'.want H with h3 | h3
  · exfalso
    have hb' := h.bd hb
    obtain ⟨Na, ia⟩ := hb.ia
    obtain ⟨Nb, ib⟩ := hb'.ib
    have hh := h.head
    have h4 := hb.hd
    rcases come_all (k := 2) h hb (.inr (.inr (wt_start ia (n := b'.want) (by omega) (by omega) (by omega)))) with h5 | h5
    · rcases h5 with h5 | h5
      · omega
      · rw [ib.nw] at h5; cases h5
    · have := hb'.hd
      omega
  · exact h3
theorem hd_ge {H : Int} : ∀ {k : Nat} {a b a' b' : CS}, Rds (k + 1) a b a' b' → Bd a b → H ≤ b.want → H ≤ a.next → H ≤ hd a + 4 → (H ≤ hd a ∨ b.owes = true ∨ (Wt a (H - 1) k ∧ 1 ≤ k)) → H ≤ hd a'
  | 0, a, b, a', b', h, hb, h1, h2, h3, hg => by
    obtain ⟨a1, b1, Fa, Fb, La, Lb, hr, hb1, rfl, rfl⟩ := h
    rcases hg with hg | hg | ⟨_, hg⟩
    · have := hr.head.1; omega
    · exact hr.ack hb hg h1 h2 h3
    · omega
  | k + 1, a, b, a', b', h, hb, h1, h2, h3, hg => by
    obtain ⟨a1, b1, Fa, Fb, La, Lb, hr, hb1, hr2⟩ := h
    have hh := hr.head
    refine hd_ge hr2 hb1 (by omega) (by omega) (by omega) ?_
    rcases hg with hg | hg | ⟨hg, _⟩
    · left; omega
    · left; exact hr.ack hb hg h1 h2 h3
    · rcases hr.wt hb hb1 hg with h | h | h
      · exact .inr (.inl h.2)
      · left; omega
      · exact .inr (.inr h)
theorem seven {a b a' b' : CS} (h : Rds 7 a b a' b') (hb : Bd a b) : a'.q.length ≤ a.q.length - 4 := by
  obtain ⟨a1, b1, h1, h2⟩ := Rds.split 3 (k := 4) h
  have hb1 := h1.bd hb
  have p := h1.head
  have q := h2.head
  obtain ⟨H, hH⟩ : ∃ H : Int, H = hd a + ((min 4 a.q.length : Nat) : Int) := ⟨_, rfl⟩
  have e1 : H ≤ hd a + 4 := by omega
  have e2 : H ≤ a.next := by unfold hd at hH; omega
  have hw := want_ge h1 hb e1 e2
  have e3 : H ≤ hd a1 + 4 := by omega
  have e4 : H ≤ a1.next := by omega
  have : H ≤ hd a' := by
    refine hd_ge (k := 3) h2 hb1 hw e4 e3 ?_
    by_cases hc : H ≤ hd a1
    · exact .inl hc
    · obtain ⟨N, ia⟩ := hb1.ia
      exact .inr (.inr ⟨wt_start ia (by omega) (by omega) (by omega), by decide⟩)
  unfold hd at *
  omega
theorem sevens : ∀ (j : Nat) {a b a' b' : CS}, Rds (7 * j) a b a' b' → Bd a b → a'.q.length ≤ a.q.length - 4 * j
  | 0, a, b, a', b', h, hb => by obtain ⟨rfl, rfl⟩ := h; omega
  | j + 1, a, b, a', b', h, hb => by
    rw [show 7 * (j + 1) = 7 + 7 * j by omega] at h
    obtain ⟨a1, b1, h1, h2⟩ := Rds.split 7 h
    have p := seven h1 hb
    have q := sevens j h2 (h1.bd hb)
    omega
theorem sixty {a b a' b' : CS} (h : Rds 60 a b a' b') (hb : Bd a b) : a'.q.length = 0 ∧ a'.next ≤ b'.want := by
  obtain ⟨a1, b1, h1, h2⟩ := Rds.split 56 (k := 4) h
  have p := sevens 8 (a := a) (b := b) h1 hb
  have q := h2.head
  obtain ⟨N, ia⟩ := hb.ia
  have hl := ia.q
  have hb' := (h.bd hb).hd
  have : a'.q.length = 0 := by unfold hd at q; omega
  refine ⟨this, ?_⟩
  unfold hd at hb'
  omega
/-- what an end has told is behind what the other has -/
def Adv (P : PS) : Prop := ∀ i, i < 2 → hd (P.s i) ≤ (P.s (1 - i)).want ∧ ∀ f ∈ P.F i, f.ack ≤ (P.s i).want - 1
theorem Adv.own {P : PS} (h : Adv P) {i : Nat} (hi : i < 2) (s' : CS) (V : Nat → Value) (vq : Nat → Value) (X : Nat → List VB) (W : Nat → Value) (F : Nat → List Fm) (h1 : hd s' = hd (P.s i)) (h2 : s'.want = (P.s i).want) (hF : ∀ j, j < 2 → ∀ f ∈ F j, f.ack ≤ (P.s j).want - 1) : Adv { P with vq := vq, s := upd P.s i s', V := V, X := X, W := W, F := F } := by
  have hs : ∀ j, hd (upd P.s i s' j) = hd (P.s j) ∧ (upd P.s i s' j).want = (P.s j).want := fun j => by
    by_cases hj : j = i
    · subst hj; rw [upd_same]; exact ⟨h1, h2⟩
    · rw [upd_other _ _ hj]; exact ⟨rfl, rfl⟩
  intro j hj
  show hd (upd P.s i s' j) ≤ (upd P.s i s' (1 - j)).want ∧ ∀ f ∈ F j, f.ack ≤ (upd P.s i s' j).want - 1
  rw [(hs j).1, (hs (1 - j)).2, (hs j).2]
  exact ⟨(h j hj).1, hF j hj⟩
theorem Adv.less {P : PS} (h : Adv P) (W : Nat → Value) (F : Nat → List Fm) (hF : ∀ j, j < 2 → ∀ f ∈ F j, f ∈ P.F j) : Adv { P with W := W, F := F } :=
  fun j hj => ⟨(h j hj).1, fun f hf => (h j hj).2 f (hF j hj f hf)⟩
theorem Adv.came {N : Nat} {P : PS} (h : Adv P) (ho : Ordr N P) {i : Nat} (hi : i < 2) {f : Fm} (hf : FOk f) (ha : f.ack ≤ (P.s i).want - 1) (v vq tv : Value) : Adv (cameP P (1 - i) f.conn f.seq f.ack f.body v vq tv) := by
  have hj : 1 - i < 2 := by omega
  have iv := ho.good.inv (1 - i) hj
  obtain ⟨s', hs'⟩ : ∃ z, takeS (P.s (1 - i)) f.conn f.seq f.ack f.body v = z := ⟨_, rfl⟩
  have hT : Took (P.s (1 - i)) [f] s' := ⟨v, hs'.symm⟩
  have hM := took_mono hT
  have hhd := (h (1 - i) hj).1
  rw [show 1 - (1 - i) = i by omega] at hhd
  have hL := took_low (A := (P.s i).want - 1) hT iv.conn (fun g hg => by obtain rfl := List.mem_singleton.1 hg; exact hf) (fun g hg => by obtain rfl := List.mem_singleton.1 hg; exact ha) iv.sq (by omega)
  unfold cameP
  rw [hs']
  intro j hj2
  show hd (upd P.s (1 - i) s' j) ≤ (upd P.s (1 - i) s' (1 - j)).want ∧ ∀ g ∈ P.F j, g.ack ≤ (upd P.s (1 - i) s' j).want - 1
  by_cases hji : j = i
  · subst hji
    rw [upd_other _ _ (show j ≠ 1 - j by omega), upd_same]
    have := (h j hj2).1
    have := hM.want
    exact ⟨by omega, (h j hj2).2⟩
  · obtain rfl : j = 1 - i := by omega
    rw [upd_same, show 1 - (1 - i) = i by omega, upd_other _ _ (show i ≠ 1 - i by omega)]
    refine ⟨by omega, fun g hg => ?_⟩
    have := (h (1 - i) hj2).2 g hg
    have := hM.want
    omega
theorem Adv.step {N : Nat} {P P' : PS} {b : List Nat} (h : Adv P) (ho : Ordr N P) (hs : Step P b P') : Adv P' := by
  have hlost : ∀ i v k, i < 2 → Adv (P3 P i v ((P.F i).take k ++ (P.F i).drop (k + 1))) := fun i v k hi => by
    refine h.less _ _ (fun j hj f hf => ?_)
    by_cases hji : j = i
    · subst hji
      rw [upd_same] at hf
      rcases List.mem_append.1 hf with hf | hf
      · exact List.mem_of_mem_take hf
      · exact List.mem_of_mem_drop hf
    · rw [upd_other _ _ hji] at hf
      exact hf
  rcases hs with rfl | ⟨i, hi, v, vq, l, rfl, he⟩ | ⟨i, hi, v, vq, vb, tv, l, rfl, he, rfl⟩ | ⟨i, hi, rfl⟩ | ⟨i, hi, v, L, rfl, hL⟩ | ⟨i, hi, v, k, hk, rfl⟩ | ⟨i, hi, f, hf, v, vq, tv, rfl⟩ | ⟨i, hi, w, k, f, hf, v, vq, tv, rfl⟩
  · exact h
  · have e : sendS (P.s i) v l = P.s i := by unfold sendS; rw [if_neg he]
    unfold P1
    rw [e]
    exact h.own hi (P.s i) P.V _ P.X P.W P.F rfl rfl (fun j hj => (h j hj).2)
  · have e : sendS (P.s i) v l = ⟨(P.s i).next + 1, (P.s i).q ++ [⟨(P.s i).next, v, l, false, 0⟩], (P.s i).want, (P.s i).early, (P.s i).owes, (P.s i).conn⟩ := by unfold sendS; rw [if_pos he]
    unfold P2 P1
    rw [e]
    exact h.own hi _ _ _ _ P.W P.F (by unfold hd; simp only [List.length_append, List.length_singleton]; omega) rfl (fun j hj => (h j hj).2)
  · exact h.own hi (tickS (P.s i)) P.V _ P.X P.W P.F (by unfold hd; rw [show (tickS (P.s i)).q.length = (P.s i).q.length from mapN_len _ _ _]; rfl) rfl (fun j hj => (h j hj).2)
  · refine h.own hi (outS (P.s i)) P.V _ P.X _ _ (by unfold hd; rw [show (outS (P.s i)).q.length = (P.s i).q.length from mapN_len _ _ _]; rfl) rfl (fun j hj f hf => ?_)
    by_cases hji : j = i
    · subst hji
      rw [upd_same] at hf
      rcases List.mem_append.1 hf with hf | hf
      · exact (h j hj).2 f hf
      · have hk : f.key ∈ outs (P.s j) := by rw [← hL]; exact List.mem_map_of_mem hf
        have : f.ack = (P.s j).want - 1 := (outs_mem (ho.good.inv j hj) hk).2.1
        omega
    · rw [upd_other _ _ hji] at hf
      exact (h j hj).2 f hf
  · exact hlost i v k hi
  · exact h.came ho hi (ho.good.fr i hi f hf) ((h i hi).2 f hf) v vq tv
  · have hf' := List.mem_of_getElem? hf
    exact (hlost i w k hi).came (ho.lost hi w k) hi (ho.good.fr i hi f hf') ((h i hi).2 f hf') v vq tv
end Go.Proofs.Ytmkpphkdaiienaa
