/- A disk, and the document's own, side by side. -/
import Derived.Test.YtadjgljimikodaaRef3
namespace Go.Proofs.Ytadjgljimikodaa
set_option linter.unusedVariables false
set_option linter.unusedSimpArgs false
open Go.ChangeShapes Go.WideShapes Go.ChangeAt Go.RowKit

theorem Fam.keepX {X p : Nat → Prop} {n : Nat} {w w' : World} {G : Nat → Nat} {D : Nat → DS} (h : Fam X n w G D) (ho : Only p w w') (hp : ∀ k, p k → X k) : Fam X n w' G D := by
  obtain ⟨S, h⟩ := h
  exact ⟨S, fun i hi => (h.disk i hi).keep ho (fun k hk q => h.far i hi k hk (hp k q)), h.far, h.apart⟩

section
variable (X : Nat → Prop) (G : Nat → Nat) (D : Nat → DS) (d : DS) (g : Nat) (w : World)

theorem fam_rwipe (hg : G 1 = g) (hd : D 1 = d.flip) (file : Int) (h : Fam X 2 w G D) (hX : ∀ k, X k → k < w.heap.size) :
    Calls Try.prog 15 #[.pointer (some ⟨g, 0, none⟩), .int .i64 file] w fun e w' => e = .returned (.int .i64 (d.wipeE file)) ∧ Fam X 2 w' G (upd D 1 (d.wipeD file).flip) ∧ Kept X w w' := by
  obtain ⟨S, h⟩ := h
  subst hg
  have hk := h.disk 1 (by decide)
  rw [hd] at hk
  exact (rwipe_any (G 1) (S 1) d file w hk).mono (fun e w' q => ⟨q.1, Fam.did h hX (by decide) q.2⟩)
theorem fam_rcrash (hg : G 1 = g) (hd : D 1 = d.flip) (h : Fam X 2 w G D) (hX : ∀ k, X k → k < w.heap.size) :
    Calls Try.prog 16 #[.pointer (some ⟨g, 0, none⟩)] w fun e w' => e = .returned (.int .i64 d.check) ∧ Fam X 2 w' G (upd D 1 d.crashD.flip) ∧ Kept X w w' := by
  obtain ⟨S, h⟩ := h
  subst hg
  have hk := h.disk 1 (by decide)
  rw [hd] at hk
  exact (rcrash_any (G 1) (S 1) d w hk).mono (fun e w' q => ⟨q.1, Fam.did h hX (by decide) (Did.same q.2.1 q.2.2)⟩)
theorem fam_rarm (hg : G 1 = g) (hd : D 1 = d.flip) (n : Int) (hn : n ≤ 9223372036854775807) (h : Fam X 2 w G D) (hX : ∀ k, X k → k < w.heap.size) :
    Calls Try.prog 17 #[.pointer (some ⟨g, 0, none⟩), .int .i64 n] w fun e w' => e = .returned (.int .i64 (d.armE n)) ∧ Fam X 2 w' G (upd D 1 (d.armD n).flip) ∧ Kept X w w' := by
  obtain ⟨S, h⟩ := h
  subst hg
  have hk := h.disk 1 (by decide)
  rw [hd] at hk
  exact (rarm_any (G 1) (S 1) d n w hk hn).mono (fun e w' q => ⟨q.1, Fam.did h hX (by decide) (Did.same q.2.1 q.2.2)⟩)
theorem fam_rdisarm (hg : G 1 = g) (hd : D 1 = d.flip) (h : Fam X 2 w G D) (hX : ∀ k, X k → k < w.heap.size) :
    Calls Try.prog 18 #[.pointer (some ⟨g, 0, none⟩)] w fun e w' => e = .returned (.int .i64 d.check) ∧ Fam X 2 w' G (upd D 1 d.disarmD.flip) ∧ Kept X w w' := by
  obtain ⟨S, h⟩ := h
  subst hg
  have hk := h.disk 1 (by decide)
  rw [hd] at hk
  exact (rdisarm_any (G 1) (S 1) d w hk).mono (fun e w' q => ⟨q.1, Fam.did h hX (by decide) (Did.same q.2.1 q.2.2)⟩)
theorem fam_rappend (hg : G 1 = g) (hd : D 1 = d.flip) (file : Int) (v : Value) (l : List Nat) (hv : Byt w v l) (hl : l.length ≤ 1000000000) (hfar : 0 < l.length → ∀ k, v.ownBlock = some k → k ≠ g) (h : Fam X 2 w G D) (hX : ∀ k, X k → k < w.heap.size) :
    Calls Try.prog 19 #[.pointer (some ⟨g, 0, none⟩), .int .i64 file, v] w fun e w' => e = .returned (.int .i64 (d.appE file l.length)) ∧ Fam X 2 w' G (upd D 1 (d.appD file l).flip) ∧ Kept X w w' := by
  obtain ⟨S, h⟩ := h
  subst hg
  have hk := h.disk 1 (by decide)
  rw [hd] at hk
  exact (rappend_any (G 1) (S 1) d file v l w hk hv hl hfar).mono (fun e w' q => ⟨q.1, Fam.did h hX (by decide) q.2⟩)
theorem fam_rstart (hg : G 1 = g) (hd : D 1 = d.flip) (h : Fam X 2 w G D) (hX : ∀ k, X k → k < w.heap.size) :
    (∃ b, w.cell? ⟨g, 4, none⟩ = some (.bool b)) ∧ w.frozen? ⟨g, 4, none⟩ = false ∧ Fam X 2 (w.setCell ⟨g, 4, none⟩ (.bool false)) G (upd D 1 ({ d with on := true } : DS).flip) ∧ Kept X w (w.setCell ⟨g, 4, none⟩ (.bool false)) := by
  obtain ⟨S, h⟩ := h
  subst hg
  have hk := h.disk 1 (by decide)
  rw [hd] at hk
  have hD : Dk (w.setCell ⟨G 1, 4, none⟩ (.bool false)) (G 1) (S 1) ({ d with on := true } : DS).flip := ⟨hk.cells.setOn false, hk.rows.setG 4 _, (hk.ok.unflip.turn true d.fuse hk.ok.fuse).flip⟩
  have hO : Only (fun k => k = G 1) w (w.setCell ⟨G 1, 4, none⟩ (.bool false)) := (Only.refl (fun k => k = G 1) w).set _ _ _ rfl
  exact ⟨⟨_, hk.cells.c4⟩, hk.cells.z4, Fam.did h hX (by decide) (Did.same hD hO)⟩
theorem fam_rused (hg : G 1 = g) (hd : D 1 = d.flip) (h : Fam X 2 w G D) :
    Calls Try.prog 21 #[.pointer (some ⟨g, 0, none⟩)] w fun e w' => e = .returned (.int .i64 (d.used : Int)) ∧ ∃ m, w' = w.drewN m := by
  obtain ⟨S, h⟩ := h
  subst hg
  have hk := h.disk 1 (by decide)
  rw [hd] at hk
  exact rused_any (G 1) (S 1) d w hk
theorem fam_rreadbad (hg : G 1 = g) (hd : D 1 = d.flip) (file : Int) (hbad : d.on = false ∨ ¬ inF file) (h : Fam X 2 w G D) :
    Calls Try.prog 23 #[.pointer (some ⟨g, 0, none⟩), .int .i64 file] w fun e w' => e = .returned (.tuple #[.slice none 0 0, .int .i64 (d.checkF file)]) ∧ w = w' := by
  obtain ⟨S, h⟩ := h
  subst hg
  have hk := h.disk 1 (by decide)
  rw [hd] at hk
  exact rread_bad (G 1) (S 1) d file w hk hbad
theorem fam_rread (hg : G 1 = g) (hd : D 1 = d.flip) (f : Nat) (hon : d.on = true) (hf : f < 3) (h : Fam X 2 w G D) :
    ∃ a cap, Byt w (.slice a (d.F f).length cap) (d.F f) ∧ Calls Try.prog 23 #[.pointer (some ⟨g, 0, none⟩), .int .i64 (f : Int)] w fun e w' => e = .returned (.tuple #[.slice a (d.F f).length cap, .int .i64 0]) ∧ w = w' := by
  obtain ⟨S, h⟩ := h
  subst hg
  have hk := h.disk 1 (by decide)
  rw [hd] at hk
  obtain ⟨a, cap, hS⟩ := hk.shape f hf
  have hb := Byt.of_own (hk.rows.own f hf)
  have hr := rread_ok (G 1) (S 1) d f w hk hon hf
  rw [hS] at hb hr
  exact ⟨a, cap, hb, hr⟩
end

/-- bytes that may be written over -/
def U8 (w : World) (v : Value) (n : Nat) : Prop :=
  (v = .slice none 0 0 ∧ n = 0) ∨ ∃ gb cap, v = .slice (some ⟨gb, 0, none⟩) n cap ∧ ∀ j, j < n → (∃ y : Int, w.cell? ⟨gb, j, none⟩ = some (.int .u8 y)) ∧ w.frozen? ⟨gb, j, none⟩ = false
theorem U8.of_own {w : World} {B : Nat} {v : Value} {l : List Nat} (h : New B w v l) : U8 w v l.length := by
  have hc := fun g hg => h.cells (g := g) hg
  obtain ⟨_, ⟨rfl, h0⟩ | ⟨g, cap, cur, rfl, hg, hh, r⟩⟩ := h
  · exact .inl ⟨rfl, h0⟩
  · refine .inr ⟨g, cap, rfl, fun j hj => ⟨?_, ?_⟩⟩
    · have q := hc g rfl j (.int .u8 ((l[j]'hj : Nat) : Int)) (by rw [bv, List.getElem?_map, List.getElem?_eq_getElem hj]; rfl)
      rw [add_plain, Nat.zero_add] at q
      exact ⟨_, q⟩
    · simp [World.frozen?, hh]
theorem U8.keep {w w' : World} {v : Value} {n : Nat} {p : Nat → Prop} (h : U8 w v n) (ho : Kept p w w') (hp : ∀ k, v.ownBlock = some k → p k) : U8 w' v n := by
  rcases h with h | ⟨gb, cap, rfl, hj⟩
  · exact .inl h
  · refine .inr ⟨gb, cap, rfl, fun j hj' => ?_⟩
    obtain ⟨⟨y, hy⟩, hz⟩ := hj j hj'
    exact ⟨⟨y, by rw [ho.cell (q := ⟨gb, j, none⟩) (hp gb rfl)]; exact hy⟩, by rw [ho.frozen (q := ⟨gb, j, none⟩) (hp gb rfl)]; exact hz⟩
theorem U8.set {w : World} {gb cap n k : Nat} (h : U8 w (.slice (some ⟨gb, 0, none⟩) n cap) n) (y : Int) : U8 (w.setCell ⟨gb, k, none⟩ (.int .u8 y)) (.slice (some ⟨gb, 0, none⟩) n cap) n := by
  rcases h with ⟨e, _⟩ | ⟨gb', cap', e, hj⟩
  · cases e
  · injection e with e1 _ e3
    injection e1 with e1
    injection e1 with e1 _ _
    subst e1 e3
    refine .inr ⟨gb, cap, rfl, fun j hj' => ?_⟩
    obtain ⟨⟨z, hz⟩, hf⟩ := hj j hj'
    refine ⟨?_, by simpa using hf⟩
    by_cases e : j = k
    · subst e; exact ⟨y, set_same _ hz⟩
    · exact ⟨z, by rw [set_other _ (fun q => e q.symm)]; exact hz⟩
theorem step_v (d : DS) (c : Cl) (v : Value) : d.step { c with v := v } = d.step c := rfl
end Go.Proofs.Ytadjgljimikodaa
