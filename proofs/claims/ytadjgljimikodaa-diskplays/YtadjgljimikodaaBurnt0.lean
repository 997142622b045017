/- What calls leave of room, and how lists of bytes come in. -/
import Derived.Test.YtadjgljimikodaaAwake
namespace Go.Proofs.Ytadjgljimikodaa
set_option linter.unusedVariables false
set_option linter.unusedSimpArgs false
open Go.ChangeShapes Go.WideShapes Go.ChangeAt Go.RowKit Go.Joins Go.Deep

theorem DS.burn_used (d : DS) (n : Nat) : (d.burnD n).used = d.used := by unfold DS.used; rw [DS.burnF]
theorem DS.put_used (d : DS) (i : Nat) (hi : i < 3) (l : List Nat) : (d.put i l).used = d.used + d.burnN l.length := by
  have := d.burnN_le l.length
  match i, hi with
  | 0, _ => simp [DS.put, DS.used, upd, List.length_take]; omega
  | 1, _ => simp [DS.put, DS.used, upd, List.length_take]; omega
  | 2, _ => simp [DS.put, DS.used, upd, List.length_take]; omega
theorem DS.put_len (d : DS) (i : Nat) (l : List Nat) : ((d.put i l).F i).length = (d.F i).length + d.burnN l.length := by
  have := d.burnN_le l.length
  simp [DS.put, upd, List.length_take]; omega
theorem DS.put_room (d : DS) (i : Nat) (l : List Nat) : (d.put i l).room = d.room := d.burn_room _
theorem DS.wipe_used (d : DS) (f : Int) : (d.wipeD f).used ≤ d.used := by
  unfold DS.wipeD
  split
  · split
    · simp only [DS.used, upd]
      have e : ∀ j, (if j = f.toNat then ([] : List Nat) else d.F j).length ≤ (d.F j).length := fun j => by split <;> simp
      have := e 0
      have := e 1
      have := e 2
      omega
    · exact Nat.le_refl _
  · exact Nat.le_refl _
theorem DS.step_used (d : DS) (c : Cl) : (d.step c).used ≤ d.used + c.b.length := by
  unfold DS.step DS.doD
  split
  · have := d.wipe_used c.file; omega
  split
  · unfold DS.crashD; split <;> (simp [DS.used]; done)
  split
  · simp [DS.used]
  split
  · unfold DS.armD; split
    · split <;> simp [DS.used]
    · simp [DS.used]
  split
  · unfold DS.disarmD; split <;> simp [DS.used]
  · unfold DS.appD
    split
    · split
      · rename_i hf
        split
        · omega
        · unfold inF at hf
          rw [d.put_used _ (by omega)]
          have := d.burnN_le c.b.length
          omega
      · omega
    · omega
theorem DS.step_room (d : DS) (c : Cl) : (d.step c).room = d.room := by
  unfold DS.step DS.doD
  split
  · unfold DS.wipeD; split
    · split
      · exact d.burn_room 1
      · rfl
    · rfl
  split
  · unfold DS.crashD; split <;> rfl
  split
  · rfl
  split
  · unfold DS.armD; split
    · split <;> rfl
    · rfl
  split
  · unfold DS.disarmD; split <;> rfl
  · unfold DS.appD
    split
    · split
      · split
        · rfl
        · exact d.put_room _ _
      · rfl
    · rfl
theorem DS.run_used : ∀ (L : List Cl) (d : DS), (d.run L).used ≤ d.used + total L := by
  intro L
  induction L with
  | nil => intro d; simp [DS.run, total]
  | cons c L ih =>
    intro d
    have h1 := ih (d.step c)
    have h2 := d.step_used c
    simp only [DS.run, List.foldl_cons, total, List.map_cons, List.sum_cons] at h1 ⊢
    omega
theorem DS.run_room : ∀ (L : List Cl) (d : DS), (d.run L).room = d.room := by
  intro L
  induction L with
  | nil => intro d; rfl
  | cons c L ih => intro d; exact (ih (d.step c)).trans (d.step_room c)

/-- a list of lists of bytes -/
def Lst (w : World) (a : Option Addr) (P : List (Value × List Nat)) : Prop :=
  (∀ p ∈ P, Byt w p.1 p.2 ∧ ∀ y ∈ p.2, y < 256) ∧ (P = [] ∨ ∃ b off, a = some ⟨b, off, none⟩ ∧ b < w.heap.size ∧ ∀ i p, P[i]? = some p → w.cell? ⟨b, off + i, none⟩ = some p.1)
theorem Lst.call {w w1 : World} {a : Option Addr} {P : List (Value × List Nat)} (h : Lst w a P) (hb : Below w.heap.size w w1) : Lst w1 a P := by
  obtain ⟨h1, h2⟩ := h
  refine ⟨fun c hc => ⟨(h1 c hc).1.call hb, (h1 c hc).2⟩, ?_⟩
  rcases h2 with h2 | ⟨b, off, rfl, hlt, h3⟩
  · exact .inl h2
  · exact .inr ⟨b, off, rfl, Nat.lt_of_lt_of_le hlt hb.size, fun i c hc => cell_keep hb hlt (h3 i c hc)⟩
theorem open_lists {H : Type} {enc : TypeId × Value → H} {W : World} {b0 base : Nat} {spare : Nat → Bool} {held : Bool} {v : Value} {d : DataW H} {p : List MemPlace}
    (hv : Value.okWide Try.prog W .any b0 54 v) (h : DataW.Trod enc Try.prog W base spare held 54 v d p) :
    ∃ (a : Option Addr) (P : List (Value × List Nat)) (cap : Nat), v = .slice a P.length cap ∧ P.length ≤ cap ∧ cap ≤ maxLen ∧ Lst W a P := by
  obtain ⟨a, n, c, rfl⟩ := okWide_slice Try.underlying54 hv
  obtain ⟨fuel, hf⟩ := h
  rcases open_slice Try.underlying54 hf with h0 | ⟨a, len, cap, m, n', D, Pl, hcs, hb, hl, hm, hmm, _, hx⟩
  · have hcs := h0.1
    simp [Value.cells] at hcs
    obtain ⟨rfl, rfl, rfl⟩ := hcs
    exact ⟨none, [], 0, rfl, Nat.le_refl _, Nat.zero_le _, ⟨fun c hc => (List.not_mem_nil hc).elim, Or.inl rfl⟩⟩
  · simp [Value.cells] at hcs
    obtain ⟨rfl, rfl, rfl⟩ := hcs
    have hlm : n ≤ m := by rw [hmm]; split <;> omega
    have each : ∀ i, i < n → ∃ q : Value × List Nat, (Byt W q.1 q.2 ∧ ∀ y ∈ q.2, y < 256) ∧ W.cell? (a.add i) = some q.1 := by
      intro i hi
      obtain ⟨cs', h1, h2⟩ := hx i (by omega)
      rw [show Try.prog.cellsOf 32 = 1 by kernel_rfl] at h1
      obtain ⟨_, hlen, hcell⟩ := World.cells?_some h1
      match cs', hlen with
      | [v0], _ =>
        obtain ⟨l, hbyt, h256⟩ := bytes_of h2
        have e0 := hcell 0 (by omega)
        rw [add_add] at e0
        exact ⟨(v0, l), ⟨hbyt, h256⟩, by simpa using e0⟩
    obtain ⟨L, hL, hp⟩ := list_of each
    refine ⟨some a, L, c, by rw [hL], by rw [hL]; exact hl, hm, ?_, ?_⟩
    · intro q hq
      obtain ⟨i, hi⟩ := List.getElem?_of_mem hq
      exact (hp i q hi).1
    · by_cases hz : L = []
      · exact .inl hz
      · right
        have hpos : 0 < L.length := List.length_pos_iff.2 hz
        have q0 := (hp 0 _ (List.getElem?_eq_getElem hpos)).2
        obtain ⟨b, off, spot⟩ := a
        have hspot : spot = none := by simpa [Addr.add] using World.cell?_spot q0
        subst hspot
        refine ⟨b, off, rfl, lt_of_cell q0, fun i q hi => ?_⟩
        have := (hp i q hi).2
        rw [add_plain] at this
        exact this

theorem mod_nat (k : Int) (n : Nat) (h : 0 < n) (h2 : n ≤ 1000000) : ∃ j : Nat, wrap64 ((IntKind.u64.wrap k).tmod (n : Int)) = (j : Int) ∧ j < n := by
  have h0 : 0 ≤ IntKind.u64.wrap k := wrap_u64_nonneg k
  rw [Int.tmod_eq_emod_of_nonneg h0]
  have g1 := Int.emod_nonneg (IntKind.u64.wrap k) (show (n : Int) ≠ 0 by omega)
  have g2 := Int.emod_lt_of_pos (IntKind.u64.wrap k) (show (0 : Int) < (n : Int) by omega)
  generalize IntKind.u64.wrap k % (n : Int) = x at *
  refine ⟨x.toNat, ?_, by omega⟩
  unfold wrap64
  omega
end Go.Proofs.Ytadjgljimikodaa
