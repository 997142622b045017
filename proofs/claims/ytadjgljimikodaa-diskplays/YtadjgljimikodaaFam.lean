/- Several disks, none of which has a block of another one's. -/
import Derived.Test.YtadjgljimikodaaClone
namespace Go.Proofs.Ytadjgljimikodaa
set_option linter.unusedVariables false
set_option linter.unusedSimpArgs false
open Go.ChangeShapes Go.WideShapes Go.ChangeAt Go.RowKit

def DS.B256 (d : DS) : Prop := ∀ i, i < 3 → ∀ y ∈ d.F i, y < 256
theorem DS.step256 (d : DS) (c : Cl) (h : d.B256) (hc : ∀ y ∈ c.b, y < 256) : (d.step c).B256 := by
  unfold DS.step DS.doD
  split
  · unfold DS.wipeD; split
    · split
      · intro i hi y hy
        simp only [upd] at hy
        split at hy
        · cases hy
        · exact h i hi y hy
      · exact h
    · exact h
  split
  · unfold DS.crashD; split <;> exact h
  split
  · exact h
  split
  · unfold DS.armD; split
    · split <;> exact h
    · exact h
  split
  · unfold DS.disarmD; split <;> exact h
  · unfold DS.appD
    split
    · split
      · rename_i hf
        split
        · exact h
        · intro i hi y hy
          simp only [DS.put, upd] at hy
          split at hy
          · rename_i e
            rcases List.mem_append.1 hy with q | q
            · exact h c.file.toNat (e ▸ hi) y q
            · exact hc y (List.mem_of_mem_take q)
          · exact h i hi y hy
      · exact h
    · exact h
theorem DS.run256 : ∀ (L : List Cl) (d : DS), d.B256 → (∀ c ∈ L, ∀ y ∈ c.b, y < 256) → (d.run L).B256 := by
  intro L
  induction L with
  | nil => intro d h _; exact h
  | cons c L ih => intro d h hc; exact ih (d.step c) (d.step256 c h (hc c (List.mem_cons_self ..))) (fun x hx => hc x (List.mem_cons_of_mem _ hx))

structure FamS (X : Nat → Prop) (n : Nat) (w : World) (G : Nat → Nat) (D : Nat → DS) (S : Nat → Nat → Value) : Prop where
  disk : ∀ i, i < n → Dk w (G i) (S i) (D i)
  far : ∀ i, i < n → ∀ k, Ft (G i) (S i) k → ¬ X k
  apart : ∀ i j, i < n → j < n → i ≠ j → ∀ k, Ft (G i) (S i) k → ¬ Ft (G j) (S j) k
def Fam (X : Nat → Prop) (n : Nat) (w : World) (G : Nat → Nat) (D : Nat → DS) : Prop := ∃ S, FamS X n w G D S
theorem Fam.ok {X : Nat → Prop} {n : Nat} {w : World} {G : Nat → Nat} {D : Nat → DS} (h : Fam X n w G D) {i : Nat} (hi : i < n) : (D i).Ok := by obtain ⟨S, h⟩ := h; exact (h.disk i hi).ok
theorem Fam.lt {X : Nat → Prop} {n : Nat} {w : World} {G : Nat → Nat} {D : Nat → DS} (h : Fam X n w G D) {i : Nat} (hi : i < n) : G i < w.heap.size := by obtain ⟨S, h⟩ := h; exact (h.disk i hi).cells.lt
theorem Fam.call {X : Nat → Prop} {n : Nat} {w w' : World} {G : Nat → Nat} {D : Nat → DS} (h : Fam X n w G D) (hb : Below w.heap.size w w') : Fam X n w' G D := by
  obtain ⟨S, h⟩ := h
  exact ⟨S, fun i hi => (h.disk i hi).call hb, h.far, h.apart⟩
theorem Fam.more {X Y : Nat → Prop} {n : Nat} {w : World} {G : Nat → Nat} {D : Nat → DS} (h : Fam X n w G D) (hY : ∀ k, Y k → X k ∨ w.heap.size ≤ k) : Fam Y n w G D := by
  obtain ⟨S, h⟩ := h
  refine ⟨S, h.disk, fun i hi k hk q => ?_, h.apart⟩
  rcases hY k q with q | q
  · exact h.far i hi k hk q
  · have := (h.disk i hi).ft_lt hk; omega
theorem Fam.cast {X : Nat → Prop} {n : Nat} {w : World} {G G' : Nat → Nat} {D D' : Nat → DS} (h : Fam X n w G D) (hG : ∀ i, i < n → G i = G' i) (hD : ∀ i, i < n → D i = D' i) : Fam X n w G' D' := by
  obtain ⟨S, h⟩ := h
  refine ⟨S, fun i hi => ?_, fun i hi => ?_, fun i j hi hj => ?_⟩
  · rw [← hG i hi, ← hD i hi]; exact h.disk i hi
  · rw [← hG i hi]; exact h.far i hi
  · rw [← hG i hi, ← hG j hj]; exact h.apart i j hi hj
theorem Fam.less {X : Nat → Prop} {n m : Nat} {w : World} {G : Nat → Nat} {D : Nat → DS} (h : Fam X n w G D) (hm : m ≤ n) : Fam X m w G D := by
  obtain ⟨S, h⟩ := h
  exact ⟨S, fun i hi => h.disk i (by omega), fun i hi => h.far i (by omega), fun i j hi hj => h.apart i j (by omega) (by omega)⟩
theorem Fam.did {X : Nat → Prop} {n : Nat} {w w' : World} {G : Nat → Nat} {D : Nat → DS} {S : Nat → Nat → Value} (h : FamS X n w G D S) (hX : ∀ k, X k → k < w.heap.size) {i : Nat} (hi : i < n) {d' : DS} (hd : Did w w' (G i) (S i) d') :
    Fam X n w' G (upd D i d') ∧ Kept X w w' := by
  obtain ⟨S', h1, h2, h3⟩ := hd
  refine ⟨⟨upd S i S', ⟨fun j hj => ?_, fun j hj k hk q => ?_, fun j l hj hl hne k hk => ?_⟩⟩, Kept.of_only h2 (fun k hk => ⟨hX k hk, fun q => h.far i hi k q hk⟩)⟩
  · by_cases e : j = i
    · subst e; rw [upd_same, upd_same]; exact h1
    · rw [upd_other _ _ _ _ e, upd_other _ _ _ _ e]
      exact (h.disk j hj).keep h2 (h.apart j i hj hi e)
  · by_cases e : j = i
    · subst e; rw [upd_same] at hk
      rcases h3 k hk with q1 | q1
      · exact h.far j hj k q1 q
      · have := hX k q; omega
    · rw [upd_other _ _ _ _ e] at hk; exact h.far j hj k hk q
  · by_cases e : j = i
    · subst e
      rw [upd_same] at hk
      rw [upd_other _ _ _ _ (fun e => hne e.symm)]
      rcases h3 k hk with q1 | q1
      · exact h.apart j l hj hl hne k q1
      · intro q; have := (h.disk l hl).ft_lt q; omega
    · rw [upd_other _ _ _ _ e] at hk
      by_cases e2 : l = i
      · subst e2
        rw [upd_same]
        intro q
        rcases h3 k q with q1 | q1
        · exact h.apart j l hj hl hne k hk q1
        · have := (h.disk j hj).ft_lt hk; omega
      · rw [upd_other _ _ _ _ e2]; exact h.apart j l hj hl hne k hk
/-- one more, all of whose blocks are new -/
theorem Fam.add {X : Nat → Prop} {n : Nat} {w w' : World} {G : Nat → Nat} {D : Nat → DS} (h : Fam X n w G D) (hX : ∀ k, X k → k < w.heap.size) {g : Nat} {d : DS} (ha : At w.heap.size w' g d) (hb : Below w.heap.size w w') : Fam X (n + 1) w' (upd G n g) (upd D n d) := by
  obtain ⟨S, h⟩ := h
  obtain ⟨Sa, ha1, ha2⟩ := ha
  refine ⟨upd S n Sa, fun j hj => ?_, fun j hj k hk q => ?_, fun j l hj hl hne k hk => ?_⟩
  · by_cases e : j = n
    · subst e; rw [upd_same, upd_same, upd_same]; exact ha1
    · rw [upd_other _ _ _ _ e, upd_other _ _ _ _ e, upd_other _ _ _ _ e]; exact (h.disk j (by omega)).call hb
  · by_cases e : j = n
    · subst e; rw [upd_same, upd_same] at hk
      have := ha2 k hk
      have := hX k q
      omega
    · rw [upd_other _ _ _ _ e, upd_other _ _ _ _ e] at hk; exact h.far j (by omega) k hk q
  · by_cases e : j = n
    · subst e
      rw [upd_same, upd_same] at hk
      rw [upd_other _ _ _ _ (fun e => hne e.symm), upd_other _ _ _ _ (fun e => hne e.symm)]
      intro q
      have := ha2 k hk
      have := (h.disk l (by omega)).ft_lt q
      omega
    · rw [upd_other _ _ _ _ e, upd_other _ _ _ _ e] at hk
      by_cases e2 : l = n
      · subst e2
        rw [upd_same, upd_same]
        intro q
        have := ha2 k q
        have := (h.disk j (by omega)).ft_lt hk
        omega
      · rw [upd_other _ _ _ _ e2, upd_other _ _ _ _ e2]; exact h.apart j l (by omega) (by omega) hne k hk
theorem Fam.one {X : Nat → Prop} {w : World} {g : Nat} {d : DS} (h : AtX X w g d) : Fam X 1 w (fun _ => g) (fun _ => d) := by
  obtain ⟨S, h1, h2⟩ := h
  exact ⟨fun _ => S, fun i hi => h1, fun i hi => h2, fun i j hi hj hne => by omega⟩

theorem fam_does (X : Nat → Prop) (n : Nat) (G : Nat → Nat) (D : Nat → DS) (i : Nat) (hi : i < n) (g : Nat) (hg : G i = g) (c : Cl) (w : World) (h : Fam X n w G D) (hX : ∀ k, X k → k < w.heap.size) (hc : ClOk w c) (hfar : 0 < c.b.length → ∀ k, c.v.ownBlock = some k → k ≠ g) :
    Calls Try.prog 14 #[.pointer (some ⟨g, 0, none⟩), .agg #[.int .i64 c.op, .int .i64 c.file, .int .i64 c.n, c.v]] w fun e w' => e = .returned (.int .i64 ((D i).doE c.op c.file c.n c.b)) ∧ Fam X n w' G (upd D i ((D i).step c)) ∧ Kept X w w' := by
  obtain ⟨S, h⟩ := h
  subst hg
  exact (does_any (G i) (S i) (D i) c.op c.file c.n c.v c.b w (h.disk i hi) hc.byt hfar hc.n).mono (fun e w' q => ⟨q.1, Fam.did h hX hi q.2⟩)
theorem fam_clone (X : Nat → Prop) (n : Nat) (G : Nat → Nat) (D : Nat → DS) (i : Nat) (hi : i < n) (g : Nat) (hg : G i = g) (w : World) (h : Fam X n w G D) (hX : ∀ k, X k → k < w.heap.size) :
    Calls Try.prog 30 #[.pointer (some ⟨g, 0, none⟩)] w fun e w' => e = .returned (.pointer (some ⟨w.heap.size, 0, none⟩)) ∧ Fam X (n + 1) w' (upd G n w.heap.size) (upd D n (D i)) ∧ Below w.heap.size w w' := by
  have h0 := h
  obtain ⟨S, h⟩ := h
  subst hg
  exact (dclone_any (G i) (S i) (D i) w (h.disk i hi)).mono (fun e w' q => ⟨q.1, h0.add hX q.2.1 q.2.2, q.2.2⟩)
theorem fam_used (X : Nat → Prop) (n : Nat) (G : Nat → Nat) (D : Nat → DS) (i : Nat) (hi : i < n) (g : Nat) (hg : G i = g) (w : World) (h : Fam X n w G D) :
    Calls Try.prog 20 #[.pointer (some ⟨g, 0, none⟩)] w fun e w' => e = .returned (.int .i64 ((D i).used : Int)) ∧ w = w' := by
  obtain ⟨S, h⟩ := h
  subst hg
  exact used_any (G i) (S i) (D i) w (h.disk i hi)
theorem fam_files (X : Nat → Prop) (n : Nat) (G : Nat → Nat) (D : Nat → DS) (i : Nat) (hi : i < n) (g : Nat) (hg : G i = g) (w : World) (h : Fam X n w G D) (hX : ∀ k, X k → k < w.heap.size) :
    Calls Try.prog 26 #[.pointer (some ⟨g, 0, none⟩)] w fun e w' => ∃ v0 v1 v2, e = .returned (.agg #[v0, v1, v2]) ∧ (∀ hi, Fam (fun k => X k ∨ (w.heap.size ≤ k ∧ k < hi)) n w' G (upd D i { D i with on := true })) ∧ Kept X w w' ∧ New w.heap.size w' v0 ((D i).F 0) ∧ New w.heap.size w' v1 ((D i).F 1) ∧ New w.heap.size w' v2 ((D i).F 2) := by
  obtain ⟨S, h⟩ := h
  subst hg
  refine (files_any (G i) (S i) (D i) w (h.disk i hi)).mono ?_
  rintro e w' ⟨v0, v1, v2, rfl, hd, ho, n0, n1, n2⟩
  refine ⟨v0, v1, v2, rfl, fun hz => ⟨S, ⟨fun j hj => ?_, fun j hj k hk q => ?_, h.apart⟩⟩, Kept.of_only ho (fun k hk => ⟨hX k hk, fun e => h.far i hi k (.inl e) hk⟩), n0, n1, n2⟩
  · by_cases e : j = i
    · subst e; rw [upd_same]; exact hd
    · rw [upd_other _ _ _ _ e]
      exact (h.disk j hj).keep ho (fun k hk q => h.apart j i hj hi e k hk (.inl q))
  · rcases q with q | q
    · exact h.far j hj k hk q
    · have := (h.disk j hj).ft_lt hk; omega
theorem fam_readbad (X : Nat → Prop) (n : Nat) (G : Nat → Nat) (D : Nat → DS) (i : Nat) (hi : i < n) (g : Nat) (hg : G i = g) (file : Int) (w : World) (h : Fam X n w G D) (hbad : (D i).on = false ∨ ¬ inF file) :
    Calls Try.prog 22 #[.pointer (some ⟨g, 0, none⟩), .int .i64 file] w fun e w' => e = .returned (.tuple #[.slice none 0 0, .int .i64 ((D i).checkF file)]) ∧ w = w' := by
  obtain ⟨S, h⟩ := h
  subst hg
  exact read_bad (G i) (S i) (D i) file w (h.disk i hi) hbad
theorem fam_read (X : Nat → Prop) (n : Nat) (G : Nat → Nat) (D : Nat → DS) (i : Nat) (hi : i < n) (g : Nat) (hg : G i = g) (f : Nat) (w : World) (h : Fam X n w G D) (hon : (D i).on = true) (hf : f < 3) :
    Calls Try.prog 22 #[.pointer (some ⟨g, 0, none⟩), .int .i64 (f : Int)] w fun e w' => ∃ v', e = .returned (.tuple #[v', .int .i64 0]) ∧ New w.heap.size w' v' ((D i).F f) ∧ Below w.heap.size w w' := by
  obtain ⟨S, h⟩ := h
  subst hg
  exact read_ok (G i) (S i) (D i) f w (h.disk i hi) hon hf
end Go.Proofs.Ytadjgljimikodaa
