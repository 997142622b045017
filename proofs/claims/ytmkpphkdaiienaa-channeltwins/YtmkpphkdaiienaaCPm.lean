/- Two ends and the ways between them in memory. -/
import Derived.Test.YtmkpphkdaiienaaCSt
namespace Go.Proofs.Ytmkpphkdaiienaa
set_option linter.unusedVariables false
set_option linter.unusedSimpArgs false
open Go.ChangeShapes Go.WideShapes Go.ChangeAt Go.RowKit Go.Joins Go.Deep

def Avoid (w : World) (p : Nat → Prop) (e : TypeId) : Prop := ∀ (B s n : Nat) (v : Value) (xs : List Value), w.ownsRow B e s v n xs → ∀ k, v.ownBlock = some k → ¬ p k
theorem avoid_fp {w : World} {B g m : Nat} {vq : Value} {s : CS} (h : Ch w B g m vq s) {e : TypeId} (h1 : e ≠ 80) (h2 : e ≠ 96) : Avoid w (fp g m vq) e := by
  intro B s n v xs ho k hk hf
  rcases hf with rfl | rfl | hf
  · exact tag_ne ho h.row h1 hk
  · exact own_map ho h.map hk
  · exact own_ne ho h.own h2 k hk hf
theorem avoid_own {w : World} {B s n : Nat} {v : Value} {xs : List Value} {e e' : TypeId} (h : w.ownsRow B e' s v n xs) (hne : e ≠ e') : Avoid w (fun k => v.ownBlock = some k) e := by
  intro B s n u xs ho k hk hf
  exact own_ne ho h hne k hk hf
theorem avoid_row {w : World} {g : Nat} {t : TypeId} {cs : List Value} (h : RowAt w g t cs) {e : TypeId} (hne : e ≠ t) : Avoid w (· = g) e := by
  intro B s n u xs ho k hk hf
  subst hf
  exact tag_ne ho h hne hk
def Bod (w : World) (B : Nat) (v : Value) (l : List Nat) : Prop := Vis w B v l
theorem Bod.keep {w w' : World} {B : Nat} {v : Value} {l : List Nat} {p : Nat → Prop} (h : Bod w B v l) (ho : Only p w w') (h1 : ∀ k, p k → B ≤ k) (h2 : Avoid w p 5) : Bod w' B v l := by
  refine ⟨h.1.only ho (fun hl k hk hp => ?_), h.2.imp id (fun h => h.imp id (fun h => own_only h ho (h2 _ _ _ _ _ h)))⟩
  rcases h.2 with h | h | h
  · exact hl h
  · have := h k hk; have := h1 k hp; omega
  · exact h2 _ _ _ _ _ h k hk hp
theorem Ch.away {w w' : World} {B g m : Nat} {vq : Value} {s : CS} {p : Nat → Prop} (h : Ch w B g m vq s) (ho : Only p w w') (hg : ¬ p g) (hm : ¬ p m) (h96 : Avoid w p 96) (h5 : Avoid w p 5) : Ch w' B g m vq s :=
  ⟨h.row.only ho hg, own_only h.own ho (h96 _ _ _ _ _ h.own), h.map.only ho hm, fun x hx => own_only (h.bod x hx) ho (h5 _ _ _ _ _ (h.bod x hx)), fun x hx => own_only (h.erl x hx) ho (h5 _ _ _ _ _ (h.erl x hx)), h.gB, h.mB⟩
theorem own_mono {w : World} {B B' s n : Nat} {e : TypeId} {v : Value} {xs : List Value} (h : w.ownsRow B e s v n xs) (hb : B' ≤ B) : w.ownsRow B' e s v n xs :=
  ⟨h.1, h.2.imp id (fun ⟨g, c, cur, e1, e2, e3⟩ => ⟨g, c, cur, e1, Nat.le_trans hb e2, e3⟩)⟩
theorem Ch.base {w : World} {B B' g m : Nat} {vq : Value} {s : CS} (h : Ch w B g m vq s) (hb : B' ≤ B) : Ch w B' g m vq s :=
  ⟨h.row, own_mono h.own hb, h.map, h.bod, h.erl, Nat.le_trans hb h.gB, Nat.le_trans hb h.mB⟩
def upd {α : Type} (f : Nat → α) (i : Nat) (x : α) (j : Nat) : α := if j = i then x else f j
theorem upd_same {α : Type} (f : Nat → α) (i : Nat) (x : α) : upd f i x i = x := if_pos rfl
theorem upd_other {α : Type} (f : Nat → α) {i j : Nat} (x : α) (h : j ≠ i) : upd f i x j = f j := if_neg h
abbrev VB := Value × List Nat
structure PS where
  g : Nat → Nat
  m : Nat → Nat
  vq : Nat → Value
  s : Nat → CS
  W : Nat → Value
  F : Nat → List Fm
  V : Nat → Value
  X : Nat → List VB
  ok : Bool
def PS.cs (P : PS) : List Value := [.pointer (some ⟨P.g 0, 0, none⟩), .pointer (some ⟨P.g 1, 0, none⟩), P.W 0, P.W 1, P.V 0, P.V 1, P.V 2, P.V 3, .bool P.ok]
structure Pair (w : World) (B gp : Nat) (P : PS) : Prop where
  row : RowAt w gp 65 P.cs
  gB : B ≤ gp
  ch : ∀ i, i < 2 → Ch w B (P.g i) (P.m i) (P.vq i) (P.s i)
  ag : P.g 0 ≠ P.g 1
  am : P.m 0 ≠ P.m 1
  aq : ∀ k, (P.vq 0).ownBlock = some k → (P.vq 1).ownBlock ≠ some k
  way : ∀ i, i < 2 → w.ownsRow B 34 4 (P.W i) (P.F i).length (fcs (P.F i))
  aw : ∀ k, (P.W 0).ownBlock = some k → (P.W 1).ownBlock ≠ some k
  rows : ∀ i, i < 4 → w.ownsRow B 32 1 (P.V i) (P.X i).length ((P.X i).map Prod.fst)
  av : ∀ i j, i < 4 → j < 4 → i ≠ j → ∀ k, (P.V i).ownBlock = some k → (P.V j).ownBlock ≠ some k
  fb : ∀ i, i < 2 → ∀ f ∈ P.F i, Own w f.v f.body
  vb : ∀ i, i < 4 → ∀ x ∈ P.X i, Bod w B x.1 x.2
theorem Pair.call {w w' : World} {B gp : Nat} {P : PS} (h : Pair w B gp P) (hb : Below w.heap.size w w') : Pair w' B gp P :=
  ⟨h.row.below hb h.row.lt, h.gB, fun i hi => (h.ch i hi).call hb, h.ag, h.am, h.aq, fun i hi => own_call (h.way i hi) hb, h.aw, fun i hi => own_call (h.rows i hi) hb, h.av, fun i hi f hf => own_call (h.fb i hi f hf) hb, fun i hi x hx => (h.vb i hi x hx).call hb⟩
theorem two_cases {i : Nat} (h : i < 2) : i = 0 ∨ i = 1 := by omega
/-- an end turns -/
theorem Pair.turn {w w' : World} {B gp : Nat} {P : PS} (h : Pair w B gp P) (i : Nat) (hi : i < 2) {vq' : Value} {s' : CS} (c : Ch w' B (P.g i) (P.m i) vq' s') (t : Turn w w' (P.g i) (P.m i) (P.vq i) vq') :
    Pair w' B gp { P with vq := upd P.vq i vq', s := upd P.s i s' } := by
  have a5 := avoid_fp (h.ch i hi) (e := 5) (by decide) (by decide)
  have a32 := avoid_fp (h.ch i hi) (e := 32) (by decide) (by decide)
  have a34 := avoid_fp (h.ch i hi) (e := 34) (by decide) (by decide)
  have hpB : ∀ k, fp (P.g i) (P.m i) (P.vq i) k → B ≤ k := fun k hk => by
    rcases hk with rfl | rfl | hk
    · exact (h.ch i hi).gB
    · exact (h.ch i hi).mB
    · exact ((h.ch i hi).own.lt k hk).1
  have hrow : RowAt w' gp 65 P.cs := (h.ch i hi).keepRow h.row (by decide) (by decide) t.1
  have hother : ∀ j, j < 2 → j ≠ i → Ch w' B (P.g j) (P.m j) (P.vq j) (P.s j) := fun j hj hji => by
    refine (h.ch j hj).other (h.ch i hi) ?_ ?_ ?_ t.1
    · rcases two_cases hi with rfl | rfl <;> rcases two_cases hj with rfl | rfl
      · exact absurd rfl hji
      · exact h.ag.symm
      · exact h.ag
      · exact absurd rfl hji
    · rcases two_cases hi with rfl | rfl <;> rcases two_cases hj with rfl | rfl
      · exact absurd rfl hji
      · exact h.am.symm
      · exact h.am
      · exact absurd rfl hji
    · rcases two_cases hi with rfl | rfl <;> rcases two_cases hj with rfl | rfl
      · exact absurd rfl hji
      · exact fun k h1 h2 => h.aq k h2 h1
      · exact h.aq
      · exact absurd rfl hji
  refine ⟨hrow, h.gB, fun j hj => ?_, h.ag, h.am, ?_, fun j hj => own_only (h.way j hj) t.1 (a34 _ _ _ _ _ (h.way j hj)), h.aw, fun j hj => own_only (h.rows j hj) t.1 (a32 _ _ _ _ _ (h.rows j hj)), h.av, fun j hj f hf => own_only (h.fb j hj f hf) t.1 (a5 _ _ _ _ _ (h.fb j hj f hf)), fun j hj x hx => (h.vb j hj x hx).keep t.1 hpB a5⟩
  · by_cases hji : j = i
    · subst hji
      show Ch w' B (P.g j) (P.m j) (upd P.vq j vq' j) (upd P.s j s' j)
      rw [upd_same, upd_same]
      exact c
    · show Ch w' B (P.g j) (P.m j) (upd P.vq i vq' j) (upd P.s i s' j)
      rw [upd_other _ _ hji, upd_other _ _ hji]
      exact hother j hj hji
  · intro k
    show (upd P.vq i vq' 0).ownBlock = some k → (upd P.vq i vq' 1).ownBlock ≠ some k
    rcases two_cases hi with rfl | rfl
    · rw [upd_same, upd_other _ _ (by decide)]
      intro h1 h2
      rcases t.2 k h1 with e | e
      · exact h.aq k e h2
      · have := own_lt (h.ch 1 (by decide)).own k h2; omega
    · rw [upd_same, upd_other _ _ (by decide)]
      intro h1 h2
      rcases t.2 k h2 with e | e
      · exact h.aq k h1 e
      · have := own_lt (h.ch 0 (by decide)).own k h1; omega
theorem cs_setV (P : PS) (i : Nat) (hi : i < 4) (v : Value) (x : List VB) : P.cs.set (4 + i) v = ({ P with V := upd P.V i v, X := upd P.X i x } : PS).cs := by
  rcases (show i = 0 ∨ i = 1 ∨ i = 2 ∨ i = 3 by omega) with rfl | rfl | rfl | rfl <;> rfl
theorem cs_setW (P : PS) (i : Nat) (hi : i < 2) (v : Value) (x : List Fm) : P.cs.set (2 + i) v = ({ P with W := upd P.W i v, F := upd P.F i x } : PS).cs := by
  rcases two_cases hi with rfl | rfl <;> rfl
/-- what holds of all but what p turns -/
theorem Pair.base {w w' : World} {B gp : Nat} {P : PS} (h : Pair w B gp P) {p : Nat → Prop} (ho : Only p w w') (hp : ∀ k, p k → B ≤ k) (h80 : ∀ i, i < 2 → ¬ p (P.g i)) (hm : ∀ i, i < 2 → ¬ p (P.m i)) (h96 : Avoid w p 96) (h5 : Avoid w p 5) :
    (∀ i, i < 2 → Ch w' B (P.g i) (P.m i) (P.vq i) (P.s i)) ∧ (∀ i, i < 2 → ∀ f ∈ P.F i, Own w' f.v f.body) ∧ (∀ i, i < 4 → ∀ x ∈ P.X i, Bod w' B x.1 x.2) :=
  ⟨fun i hi => (h.ch i hi).away ho (h80 i hi) (hm i hi) h96 h5, fun i hi f hf => own_only (h.fb i hi f hf) ho (h5 _ _ _ _ _ (h.fb i hi f hf)), fun i hi x hx => (h.vb i hi x hx).keep ho hp h5⟩
/-- a list of bodies grows -/
theorem Pair.setV {w w1 : World} {B gp : Nat} {P : PS} (h : Pair w B gp P) (i : Nat) (hi : i < 4) {v : Value} {x : List VB} (ho : Only (fun k => (P.V i).ownBlock = some k) w w1) (own : w1.ownsRow B 32 1 v x.length (x.map Prod.fst))
    (hk : ∀ k, v.ownBlock = some k → (P.V i).ownBlock = some k ∨ w.heap.size ≤ k) (hb : ∀ y ∈ x, Bod w1 B y.1 y.2) : Pair (w1.setCell ⟨gp, 4 + i, none⟩ v) B gp { P with V := upd P.V i v, X := upd P.X i x } := by
  have hr1 : RowAt w1 gp 65 P.cs := h.row.only ho (fun e => tag_ne (h.rows i hi) h.row (by decide) e)
  obtain ⟨c1, f1, b1⟩ := h.base ho (fun k hk => ((h.rows i hi).lt k hk).1) (fun j hj e => tag_ne (h.rows i hi) (h.ch j hj).row (by decide) e) (fun j hj e => own_map (h.rows i hi) (h.ch j hj).map e) (avoid_own (h.rows i hi) (by decide)) (avoid_own (h.rows i hi) (by decide))
  have w1' : ∀ j, j < 2 → w1.ownsRow B 34 4 (P.W j) (P.F j).length (fcs (P.F j)) := fun j hj => own_only (h.way j hj) ho (avoid_own (h.rows i hi) (by decide) _ _ _ _ _ (h.way j hj))
  have r1 : ∀ j, j < 4 → j ≠ i → w1.ownsRow B 32 1 (P.V j) (P.X j).length ((P.X j).map Prod.fst) := fun j hj hji => own_only (h.rows j hj) ho (fun k h1 h2 => h.av j i hj hi hji k h1 h2)
  have o2 : Only (· = gp) w1 (w1.setCell ⟨gp, 4 + i, none⟩ v) := Only.set (p := (· = gp)) (Only.refl _ _) gp _ _ rfl
  refine ⟨?_, h.gB, fun j hj => (c1 j hj).away o2 (fun e => rtag (c1 j hj).row hr1 (by decide) e) (fun e => row_map hr1 (c1 j hj).map e.symm) (avoid_row hr1 (by decide)) (avoid_row hr1 (by decide)), h.ag, h.am, h.aq, fun j hj => own_only (w1' j hj) o2 (avoid_row hr1 (by decide) _ _ _ _ _ (w1' j hj)), h.aw, fun j hj => ?_, fun j l hj hl hjl k => ?_, fun j hj f hf => own_only (f1 j hj f hf) o2 (avoid_row hr1 (by decide) _ _ _ _ _ (f1 j hj f hf)), fun j hj y hy => ?_⟩
  · rw [← cs_setV P i hi]
    exact hr1.set (4 + i) v
  · show World.ownsRow _ B 32 1 (upd P.V i v j) (upd P.X i x j).length ((upd P.X i x j).map Prod.fst)
    by_cases hji : j = i
    · subst hji
      rw [upd_same, upd_same]
      exact own_only own o2 (avoid_row hr1 (by decide) _ _ _ _ _ own)
    · rw [upd_other _ _ hji, upd_other _ _ hji]
      exact own_only (r1 j hj hji) o2 (avoid_row hr1 (by decide) _ _ _ _ _ (r1 j hj hji))
  · show (upd P.V i v j).ownBlock = some k → (upd P.V i v l).ownBlock ≠ some k
    by_cases hji : j = i
    · subst hji
      rw [upd_same, upd_other _ _ (Ne.symm hjl)]
      intro h1 h2
      rcases hk k h1 with e | e
      · exact h.av j l hj hl hjl k e h2
      · have := own_lt (h.rows l hl) k h2; omega
    · rw [upd_other _ _ hji]
      by_cases hli : l = i
      · subst hli
        rw [upd_same]
        intro h1 h2
        rcases hk k h2 with e | e
        · exact h.av j l hj hl hjl k h1 e
        · have := own_lt (h.rows j hj) k h1; omega
      · rw [upd_other _ _ hli]
        exact h.av j l hj hl hjl k
  · have hy' : y ∈ upd P.X i x j := hy
    have : Bod w1 B y.1 y.2 := by
      by_cases hji : j = i
      · subst hji
        rw [upd_same] at hy'
        exact hb y hy'
      · rw [upd_other _ _ hji] at hy'
        exact b1 j hj y hy'
    exact this.keep o2 (fun k hk => by rw [hk]; exact h.gB) (avoid_row hr1 (by decide))
/-- a way changes -/
theorem Pair.setW {w w1 : World} {B gp : Nat} {P : PS} (h : Pair w B gp P) (i : Nat) (hi : i < 2) {v : Value} {x : List Fm} (ho : Only (fun k => (P.W i).ownBlock = some k) w w1) (own : w1.ownsRow B 34 4 v x.length (fcs x))
    (hk : ∀ k, v.ownBlock = some k → (P.W i).ownBlock = some k ∨ w.heap.size ≤ k) (hb : ∀ f ∈ x, Own w1 f.v f.body) : Pair (w1.setCell ⟨gp, 2 + i, none⟩ v) B gp { P with W := upd P.W i v, F := upd P.F i x } := by
  have hr1 : RowAt w1 gp 65 P.cs := h.row.only ho (fun e => tag_ne (h.way i hi) h.row (by decide) e)
  obtain ⟨c1, f1, b1⟩ := h.base ho (fun k hk => ((h.way i hi).lt k hk).1) (fun j hj e => tag_ne (h.way i hi) (h.ch j hj).row (by decide) e) (fun j hj e => own_map (h.way i hi) (h.ch j hj).map e) (avoid_own (h.way i hi) (by decide)) (avoid_own (h.way i hi) (by decide))
  have w1' : ∀ j, j < 2 → j ≠ i → w1.ownsRow B 34 4 (P.W j) (P.F j).length (fcs (P.F j)) := fun j hj hji => own_only (h.way j hj) ho (fun k h1 h2 => by
    rcases two_cases hi with rfl | rfl <;> rcases two_cases hj with rfl | rfl
    · exact hji rfl
    · exact h.aw k h2 h1
    · exact h.aw k h1 h2
    · exact hji rfl)
  have r1 : ∀ j, j < 4 → w1.ownsRow B 32 1 (P.V j) (P.X j).length ((P.X j).map Prod.fst) := fun j hj => own_only (h.rows j hj) ho (avoid_own (h.way i hi) (by decide) _ _ _ _ _ (h.rows j hj))
  have o2 : Only (· = gp) w1 (w1.setCell ⟨gp, 2 + i, none⟩ v) := Only.set (p := (· = gp)) (Only.refl _ _) gp _ _ rfl
  refine ⟨?_, h.gB, fun j hj => (c1 j hj).away o2 (fun e => rtag (c1 j hj).row hr1 (by decide) e) (fun e => row_map hr1 (c1 j hj).map e.symm) (avoid_row hr1 (by decide)) (avoid_row hr1 (by decide)), h.ag, h.am, h.aq, fun j hj => ?_, fun k => ?_, fun j hj => own_only (r1 j hj) o2 (avoid_row hr1 (by decide) _ _ _ _ _ (r1 j hj)), h.av, fun j hj f hf => ?_, fun j hj y hy => (b1 j hj y hy).keep o2 (fun k hk => by rw [hk]; exact h.gB) (avoid_row hr1 (by decide))⟩
  · rw [← cs_setW P i hi]
    exact hr1.set (2 + i) v
  · show World.ownsRow _ B 34 4 (upd P.W i v j) (upd P.F i x j).length (fcs (upd P.F i x j))
    by_cases hji : j = i
    · subst hji
      rw [upd_same, upd_same]
      exact own_only own o2 (avoid_row hr1 (by decide) _ _ _ _ _ own)
    · rw [upd_other _ _ hji, upd_other _ _ hji]
      exact own_only (w1' j hj hji) o2 (avoid_row hr1 (by decide) _ _ _ _ _ (w1' j hj hji))
  · show (upd P.W i v 0).ownBlock = some k → (upd P.W i v 1).ownBlock ≠ some k
    rcases two_cases hi with rfl | rfl
    · rw [upd_same, upd_other _ _ (by decide)]
      intro h1 h2
      rcases hk k h1 with e | e
      · exact h.aw k e h2
      · have := own_lt (h.way 1 (by decide)) k h2; omega
    · rw [upd_same, upd_other _ _ (by decide)]
      intro h1 h2
      rcases hk k h2 with e | e
      · exact h.aw k h1 e
      · have := own_lt (h.way 0 (by decide)) k h1; omega
  · have hf' : f ∈ upd P.F i x j := hf
    have : Own w1 f.v f.body := by
      by_cases hji : j = i
      · subst hji
        rw [upd_same] at hf'
        exact hb f hf'
      · rw [upd_other _ _ hji] at hf'
        exact f1 j hj f hf'
    exact own_only this o2 (avoid_row hr1 (by decide) _ _ _ _ _ this)
theorem Pair.setOk {w : World} {B gp : Nat} {P : PS} (h : Pair w B gp P) (o : Bool) : Pair (w.setCell ⟨gp, 8, none⟩ (.bool o)) B gp { P with ok := o } := by
  have o2 : Only (· = gp) w (w.setCell ⟨gp, 8, none⟩ (.bool o)) := Only.set (p := (· = gp)) (Only.refl _ _) gp _ _ rfl
  obtain ⟨c1, f1, b1⟩ := h.base o2 (fun k hk => by rw [hk]; exact h.gB) (fun j hj e => rtag (h.ch j hj).row h.row (by decide) e) (fun j hj e => row_map h.row (h.ch j hj).map e.symm) (avoid_row h.row (by decide)) (avoid_row h.row (by decide))
  exact ⟨h.row.set 8 (.bool o), h.gB, c1, h.ag, h.am, h.aq, fun j hj => own_only (h.way j hj) o2 (avoid_row h.row (by decide) _ _ _ _ _ (h.way j hj)), h.aw, fun j hj => own_only (h.rows j hj) o2 (avoid_row h.row (by decide) _ _ _ _ _ (h.rows j hj)), h.av, f1, b1⟩
theorem Pair.low {w : World} {B gp : Nat} {P : PS} (h : Pair w B gp P) : B ≤ w.heap.size := Nat.le_trans h.gB (Nat.le_of_lt h.row.lt)
end Go.Proofs.Ytmkpphkdaiienaa
