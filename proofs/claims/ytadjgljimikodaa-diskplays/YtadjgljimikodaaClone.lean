/- A disk once more. -/
import Derived.Test.YtadjgljimikodaaKept
namespace Go.Proofs.Ytadjgljimikodaa
set_option linter.unusedVariables false
set_option linter.unusedSimpArgs false
open Go.ChangeShapes Go.WideShapes Go.ChangeAt Go.RowKit

theorem Cells.fresh (w : World) (S : Nat → Value) (r : Nat) (o : Bool) (f : Nat) : Cells (w.alloc (.cells #[S 0, S 1, S 2, .int .i64 (r : Int), .bool o, .int .i64 (f : Int)] 60)) w.heap.size S r o f := by
  constructor <;> (simp [go_sem]; done)
/-- as far as it has been cloned -/
structure Cln (wr : World) (g : Nat) (V S : Nat → Value) (d : DS) (k : Nat) : Prop where
  cells : Cells wr g V d.room d.on d.fuse
  new : ∀ j, j < k → New (g + 1) wr (V j) (d.F j)
  rest : ∀ j, k ≤ j → V j = S j
  apart : ∀ i j, i < k → j < k → i ≠ j → ∀ b, (V i).ownBlock = some b → (V j).ownBlock ≠ some b
theorem Cln.next {wr w3 : World} {g : Nat} {V S : Nat → Value} {d : DS} {k : Nat} (h : Cln wr g V S d k) (hk : k < 3) {v : Value} (hn : New wr.heap.size w3 v (d.F k)) (hb : Below wr.heap.size wr w3) : Cln (w3.setCell ⟨g, k, none⟩ v) g (upd V k v) S d (k + 1) := by
  have hg := h.cells.lt
  have hO : Only (fun x => x = g) w3 (w3.setCell ⟨g, k, none⟩ v) := (Only.refl (fun x => x = g) w3).set _ _ _ rfl
  refine ⟨(h.cells.keep (hb.block g hg)).setFile k hk v, fun j hj => ?_, fun j hj => ?_, fun i j hi hj hne b hbk => ?_⟩
  · by_cases e : j = k
    · subst e
      rw [upd_same]
      exact (hn.mono (by omega)).only hO (fun x hx _ e => by omega)
    · rw [upd_other _ _ _ _ e]
      exact ((h.new j (by omega)).call hb).only hO (fun x hx _ e => by omega)
  · rw [upd_other _ _ _ _ (by omega)]
    exact h.rest j (by omega)
  · by_cases e : i = k
    · subst e
      rw [upd_same] at hbk
      rw [upd_other _ _ _ _ (fun e => hne e.symm)]
      intro q
      have := (hn.lt b hbk).1
      have := ((h.new j (by omega)).lt b q).2
      omega
    · rw [upd_other _ _ _ _ e] at hbk
      by_cases e2 : j = k
      · subst e2
        rw [upd_same]
        intro q
        have := (hn.lt b q).1
        have := ((h.new i (by omega)).lt b hbk).2
        omega
      · rw [upd_other _ _ _ _ e2]
        exact h.apart i j (by omega) (by omega) hne b hbk
theorem Cln.done {wr : World} {g : Nat} {V S : Nat → Value} {d : DS} (h : Cln wr g V S d 3) (hok : d.Ok) : Dk wr g V d ∧ ∀ x, Ft g V x → g ≤ x := by
  refine ⟨⟨h.cells, ⟨fun i hi => own_zero (h.new i hi), fun i hi q => ?_, fun i j hi hj hne => h.apart i j hi hj hne⟩, hok⟩, fun x hx => ?_⟩
  · have := ((h.new i hi).lt g q).1
    omega
  · rcases hx with rfl | ⟨i, hi, hx⟩
    · exact Nat.le_refl _
    · have := ((h.new i hi).lt x hx).1
      omega

set_option maxHeartbeats 4000000 in
theorem dclone_any (g : Nat) (S : Nat → Value) (d : DS) (w : World) (h : Dk w g S d) :
    Calls Try.prog 30 #[.pointer (some ⟨g, 0, none⟩)] w fun e w' => e = .returned (.pointer (some ⟨w.heap.size, 0, none⟩)) ∧ At w.heap.size w' w.heap.size d ∧ Below w.heap.size w w' := by
  have hm := made_any g S d w h
  obtain ⟨a0, p0, e0⟩ := h.shape 0 (by decide)
  obtain ⟨a1, p1, e1⟩ := h.shape 1 (by decide)
  obtain ⟨a2, p2, e2⟩ := h.shape 2 (by decide)
  obtain ⟨c0, c1, c2, c3, c4, c5, -, -, -, -, -, -⟩ := id h.cells
  have hgz := h.cells.lt
  have hfr := Cells.fresh w S d.room d.on d.fuse
  rw [e0] at c0 hfr
  rw [e1] at c1 hfr
  rw [e2] at c2 hfr
  have HFR := hide hfr
  have K0 := hide (p := ∀ W, Below w.heap.size w W → Byt W (S 0) (d.F 0)) (fun W hb => (Byt.of_own (h.rows.own 0 (by decide))).call hb)
  have K1 := hide (p := ∀ W, Below w.heap.size w W → Byt W (S 1) (d.F 1)) (fun W hb => (Byt.of_own (h.rows.own 1 (by decide))).call hb)
  have K2 := hide (p := ∀ W, Below w.heap.size w W → Byt W (S 2) (d.F 2)) (fun W hb => (Byt.of_own (h.rows.own 2 (by decide))).call hb)
  have l0 : (d.F 0).length ≤ 1000000000 := Nat.le_trans (h.ok.len 0 (by decide)) (by decide)
  have l1 : (d.F 1).length ≤ 1000000000 := Nat.le_trans (h.ok.len 1 (by decide)) (by decide)
  have l2 : (d.F 2).length ≤ 1000000000 := Nat.le_trans (h.ok.len 2 (by decide)) (by decide)
  have HOK := hide h.ok
  have i0 := idx0 (.slice a0 (d.F 0).length p0) (.slice a1 (d.F 1).length p1) (.slice a2 (d.F 2).length p2)
  have i1 := idx1 (.slice a0 (d.F 0).length p0) (.slice a1 (d.F 1).length p1) (.slice a2 (d.F 2).length p2)
  have i2 := idx2 (.slice a0 (d.F 0).length p0) (.slice a1 (d.F 1).length p1) (.slice a2 (d.F 2).length p2)
  rw [e0] at K0
  rw [e1] at K1
  rw [e2] at K2
  clear hfr h e0 e1 e2
  go_enter Try.func30, Try.ntmps30
  go_wp2_with fail
  refine hm.mono ?_
  rintro e w' ⟨rfl, rfl⟩
  go_wp2_with fail
  go_loopw [4, 5, 16] (fun _ _ i wr => ∃ k : Nat, k ≤ 3 ∧ i = .int .i64 k ∧ (∃ V, Cln wr w.heap.size V S d k) ∧ Below w.heap.size w wr) (fun _ _ i _ => 3 - (intOf i).toNat)
  case atStart => exact ⟨0, by omega, rfl, ⟨S, unhide HFR, fun j hj => by omega, fun j _ => rfl, fun i j hi => by omega⟩, (Below.refl _ _).alloc (Nat.le_refl _) _⟩
  case round =>
    obtain ⟨k, hk, rfl, ⟨V, hV⟩, hbel⟩ := hrel
    match k, hk with
    | 0, _ =>
      have hc := hide (clone_any _ _ wr (unhide K0 wr hbel) l0)
      have HV := hide hV
      clear hV
      go_wp2_with fail
      refine (unhide hc).mono ?_
      rintro e w3 ⟨v3, rfl, hn3, hb3⟩
      obtain ⟨a3, cap3, rfl⟩ := byt_shape (Byt.of_own hn3)
      have hnx := (unhide HV).next (by decide) hn3 hb3
      have hq := (unhide HV).cells.keep (hb3.block _ (unhide HV).cells.lt)
      have q := hq.c0
      have z := hq.z0
      have hb4 : Below w.heap.size w (w3.setCell ⟨w.heap.size, 0, none⟩ (.slice a3 (d.F 0).length cap3)) := (hbel.trans (hb3.mono hbel.size)).setCell (Nat.le_refl _) _
      have FIN := hide (show (∃ V, Cln (w3.setCell ⟨w.heap.size, 0, none⟩ (.slice a3 (d.F 0).length cap3)) w.heap.size V S d 1) ∧ Below w.heap.size w (w3.setCell ⟨w.heap.size, 0, none⟩ (.slice a3 (d.F 0).length cap3)) from ⟨⟨_, hnx⟩, hb4⟩)
      clear hnx hq hn3 HV hb4 hc
      go_wp2
      go_roundw
      case rel => exact ⟨1, by omega, by go_num, unhide FIN⟩
      case measure => simp [intOf]
    | 1, _ =>
      have hc := hide (clone_any _ _ wr (unhide K1 wr hbel) l1)
      have HV := hide hV
      clear hV
      go_wp2_with fail
      refine (unhide hc).mono ?_
      rintro e w3 ⟨v3, rfl, hn3, hb3⟩
      obtain ⟨a3, cap3, rfl⟩ := byt_shape (Byt.of_own hn3)
      have hnx := (unhide HV).next (by decide) hn3 hb3
      have hq := (unhide HV).cells.keep (hb3.block _ (unhide HV).cells.lt)
      have q := hq.c1
      have z := hq.z1
      have hb4 : Below w.heap.size w (w3.setCell ⟨w.heap.size, 1, none⟩ (.slice a3 (d.F 1).length cap3)) := (hbel.trans (hb3.mono hbel.size)).setCell (Nat.le_refl _) _
      have FIN := hide (show (∃ V, Cln (w3.setCell ⟨w.heap.size, 1, none⟩ (.slice a3 (d.F 1).length cap3)) w.heap.size V S d 2) ∧ Below w.heap.size w (w3.setCell ⟨w.heap.size, 1, none⟩ (.slice a3 (d.F 1).length cap3)) from ⟨⟨_, hnx⟩, hb4⟩)
      clear hnx hq hn3 HV hb4 hc
      go_wp2
      go_roundw
      case rel => exact ⟨2, by omega, by go_num, unhide FIN⟩
      case measure => simp [intOf]
    | 2, _ =>
      have hc := hide (clone_any _ _ wr (unhide K2 wr hbel) l2)
      have HV := hide hV
      clear hV
      go_wp2_with fail
      refine (unhide hc).mono ?_
      rintro e w3 ⟨v3, rfl, hn3, hb3⟩
      obtain ⟨a3, cap3, rfl⟩ := byt_shape (Byt.of_own hn3)
      have hnx := (unhide HV).next (by decide) hn3 hb3
      have hq := (unhide HV).cells.keep (hb3.block _ (unhide HV).cells.lt)
      have q := hq.c2
      have z := hq.z2
      have hb4 : Below w.heap.size w (w3.setCell ⟨w.heap.size, 2, none⟩ (.slice a3 (d.F 2).length cap3)) := (hbel.trans (hb3.mono hbel.size)).setCell (Nat.le_refl _) _
      have FIN := hide (show (∃ V, Cln (w3.setCell ⟨w.heap.size, 2, none⟩ (.slice a3 (d.F 2).length cap3)) w.heap.size V S d 3) ∧ Below w.heap.size w (w3.setCell ⟨w.heap.size, 2, none⟩ (.slice a3 (d.F 2).length cap3)) from ⟨⟨_, hnx⟩, hb4⟩)
      clear hnx hq hn3 HV hb4 hc
      go_wp2
      go_roundw
      case rel => exact ⟨3, by omega, by go_num, unhide FIN⟩
      case measure => simp [intOf]
    | 3, _ =>
      have fin := hV.done (unhide HOK)
      go_wp2
      go_ret
      exact ⟨rfl, ⟨V, fin⟩, hbel⟩
end Go.Proofs.Ytadjgljimikodaa
