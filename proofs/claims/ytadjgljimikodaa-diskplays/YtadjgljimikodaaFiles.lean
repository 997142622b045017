/- The files of a disk; bytes that are the same. -/
import Derived.Test.YtadjgljimikodaaMade
import Derived.Laws.IdiomStrings
namespace Go.Proofs.Ytadjgljimikodaa
set_option linter.unusedVariables false
set_option linter.unusedSimpArgs false
open Go.ChangeShapes Go.WideShapes Go.ChangeAt Go.RowKit

/-- bytes in memory that is new since block B -/
def New (B : Nat) (w : World) (v : Value) (l : List Nat) : Prop := w.ownsRow B 5 1 v l.length (bv l)
theorem New.byt {B : Nat} {w : World} {v : Value} {l : List Nat} (h : New B w v l) : Byt w v l := Byt.of_own h
theorem New.only {B : Nat} {p : Nat → Prop} {a b : World} {v : Value} {l : List Nat} (h : New B a v l) (ho : Only p a b) (hp : ∀ k, B ≤ k → k < a.heap.size → ¬ p k) : New B b v l :=
  ho.own h (fun k hk => hp k (h.lt k hk).1 (h.lt k hk).2)
theorem New.call {B : Nat} {a b : World} {v : Value} {l : List Nat} (h : New B a v l) (hb : Below a.heap.size a b) : New B b v l := h.only (Only.of_below (p := fun _ => False) hb) (fun _ _ _ q => q)
theorem New.mono {B B' : Nat} {w : World} {v : Value} {l : List Nat} (h : New B w v l) (hB : B' ≤ B) : New B' w v l := by
  obtain ⟨h1, h | ⟨g, cap, cur, hv, hg, r⟩⟩ := h
  · exact ⟨h1, .inl h⟩
  · exact ⟨h1, .inr ⟨g, cap, cur, hv, Nat.le_trans hB hg, r⟩⟩
theorem New.shape {B : Nat} {w : World} {v : Value} {l : List Nat} (h : New B w v l) : ∃ a cap, v = .slice a l.length cap := byt_shape h.byt

theorem Only.of_low {B : Nat} {a b : World} (h : Below B a b) : Only (fun k => ¬ k < B) a b := ⟨h.os, h.tape, h.output, h.size, fun k _ hk => h.block k (Classical.byContradiction hk)⟩
/-- three slices that lie in block o -/
def Out (w : World) (o : Nat) (V : Nat → Value) : Prop :=
  (w.cell? ⟨o, 0, none⟩ = some (V 0) ∧ w.cell? ⟨o, 1, none⟩ = some (V 1) ∧ w.cell? ⟨o, 2, none⟩ = some (V 2)) ∧ (w.frozen? ⟨o, 0, none⟩ = false ∧ w.frozen? ⟨o, 1, none⟩ = false ∧ w.frozen? ⟨o, 2, none⟩ = false)
theorem Out.keep {w w' : World} {o : Nat} {V : Nat → Value} (h : Out w o V) (hb : Below (o + 1) w w') : Out w' o V := by
  obtain ⟨⟨a, b, c⟩, d, e, f⟩ := h
  have q : o < o + 1 := Nat.lt_succ_self _
  exact ⟨⟨cell_keep hb q a, cell_keep hb q b, cell_keep hb q c⟩, by rw [hb.frozen (p := ⟨o, 0, none⟩) q]; exact d, by rw [hb.frozen (p := ⟨o, 1, none⟩) q]; exact e, by rw [hb.frozen (p := ⟨o, 2, none⟩) q]; exact f⟩
theorem Out.set {w : World} {o : Nat} {V : Nat → Value} (h : Out w o V) (i : Nat) (hi : i < 3) (v : Value) : Out (w.setCell ⟨o, i, none⟩ v) o (upd V i v) := by
  obtain ⟨⟨a, b, c⟩, d, e, f⟩ := h
  match i, hi with
  | 0, _ => exact ⟨⟨set_same _ a, by rw [set_other _ (by decide)]; exact b, by rw [set_other _ (by decide)]; exact c⟩, by simpa using d, by simpa using e, by simpa using f⟩
  | 1, _ => exact ⟨⟨by rw [set_other _ (by decide)]; exact a, set_same _ b, by rw [set_other _ (by decide)]; exact c⟩, by simpa using d, by simpa using e, by simpa using f⟩
  | 2, _ => exact ⟨⟨by rw [set_other _ (by decide)]; exact a, by rw [set_other _ (by decide)]; exact b, set_same _ c⟩, by simpa using d, by simpa using e, by simpa using f⟩
theorem Out.fresh (w : World) (v0 v1 v2 : Value) : Out (w.alloc (.cells #[v0, v1, v2] 40)) w.heap.size (fun j => match j with | 0 => v0 | 1 => v1 | _ => v2) := by
  refine ⟨⟨?_, ?_, ?_⟩, ?_, ?_, ?_⟩ <;> (simp [go_sem]; done)

set_option maxHeartbeats 2000000 in
theorem files_any (g : Nat) (S : Nat → Value) (d : DS) (w : World) (h : Dk w g S d) :
    Calls Try.prog 26 #[.pointer (some ⟨g, 0, none⟩)] w fun e w' => ∃ v0 v1 v2, e = .returned (.agg #[v0, v1, v2]) ∧ Dk w' g S { d with on := true } ∧ Only (fun k => k = g) w w' ∧ New w.heap.size w' v0 (d.F 0) ∧ New w.heap.size w' v1 (d.F 1) ∧ New w.heap.size w' v2 (d.F 2) := by
  have ha : Below w.heap.size w (w.alloc (.cells #[.slice none 0 0, .slice none 0 0, .slice none 0 0] 40)) := (Below.refl _ _).alloc (Nat.le_refl _) _
  have hgz := h.cells.lt
  have hst := start_any g S d _ (h.call ha)
  have hor := Out.fresh w (.slice none 0 0) (.slice none 0 0) (.slice none 0 0)
  have HOR := hide hor
  have HA := hide ha
  clear hor ha
  go_enter Try.func26, Try.ntmps26
  go_wp2_with fail
  refine hst.mono ?_
  rintro e w1 ⟨rfl, hd1, ho1⟩
  have hw1 : w.heap.size < w1.heap.size := by have := ho1.size; simp at this; omega
  have hor1 : Out w1 w.heap.size (fun j => match j with | 0 => .slice none 0 0 | 1 => .slice none 0 0 | _ => .slice none 0 0) := by
    obtain ⟨⟨q0, q1, q2⟩, z0, z1, z2⟩ := unhide HOR
    have hne : ¬ (w.heap.size = g) := by omega
    have hl : w.heap.size < (w.alloc (.cells #[.slice none 0 0, .slice none 0 0, .slice none 0 0] 40)).heap.size := by simp
    exact ⟨⟨ho1.cell hne q0, ho1.cell hne q1, ho1.cell hne q2⟩, by rw [ho1.frozen (q := ⟨w.heap.size, 0, none⟩) hl hne]; exact z0, by rw [ho1.frozen (q := ⟨w.heap.size, 1, none⟩) hl hne]; exact z1, by rw [ho1.frozen (q := ⟨w.heap.size, 2, none⟩) hl hne]; exact z2⟩
  have hd2 : Dk (w1.alloc (.cells #[.slice none 0 0, .slice none 0 0, .slice none 0 0] 40)) g S { d with on := true } := hd1.call ((Below.refl _ _).alloc (Nat.le_refl _) _)
  have hO2 : Only (fun k => k = g) w w1 := (Only.of_below (unhide HA)).trans ho1
  have hfr := Out.fresh w1 (.slice none 0 0) (.slice none 0 0) (.slice none 0 0)
  have HFR := hide hfr
  have HD1 := hide hd1
  have HD2 := hide hd2
  have HO2 := hide hO2
  have HR1 := hide hor1
  have HDW := hide (p := ∀ k, Ft g S k → k < w.heap.size) (fun k hk => h.ft_lt hk)
  clear hd1 ho1 hor1 hd2 hO2 hfr hst h
  go_wp2_with fail
  go_loopw [4, 7] (fun _ i wr => ∃ k : Nat, k ≤ 3 ∧ i = .int .i64 k ∧ ∃ V, Out wr w1.heap.size V ∧ (∀ j, j < k → New (w1.heap.size + 1) wr (V j) (d.F j)) ∧ (∀ j, k ≤ j → V j = .slice none 0 0) ∧ Below w1.heap.size (w1.alloc (.cells #[.slice none 0 0, .slice none 0 0, .slice none 0 0] 40)) wr) (fun _ i _ => 3 - (intOf i).toNat)
  case atStart => exact ⟨0, by omega, rfl, _, unhide HFR, fun j hj => by omega, fun j _ => by split <;> rfl, Below.refl _ _⟩
  case round =>
    obtain ⟨k, hk, rfl, hR⟩ := hrel
    match k, hk with
    | 0, _ =>
      obtain ⟨V, hV, hN, hZ, hbel⟩ := hR
      have hdk : Dk wr g S { d with on := true } := (unhide HD2).keep (p := fun k => ¬ k < w1.heap.size) (Only.of_low hbel) (fun k hk q => q ((unhide HD1).ft_lt hk))
      have hrd := hide (read_ok g S { d with on := true } 0 wr hdk rfl (by decide))
      have hsz : w1.heap.size < wr.heap.size := by have := hbel.size; simp at this; omega
      have HV := hide hV
      clear hV hdk
      go_wp2_with fail
      refine (unhide hrd).mono ?_
      rintro e w3 ⟨v3, rfl, hn3, hb3⟩
      obtain ⟨a3, cap3, rfl⟩ := byt_shape (Byt.of_own hn3)
      have hV3 := (unhide HV).keep (hb3.mono hsz)
      obtain ⟨⟨q0, q1, q2⟩, z0, z1, z2⟩ := id hV3
      have fin : ∃ V, Out (w3.setCell ⟨w1.heap.size, 0, none⟩ (.slice a3 (d.F 0).length cap3)) w1.heap.size V ∧ (∀ j, j < 1 → New (w1.heap.size + 1) (w3.setCell ⟨w1.heap.size, 0, none⟩ (.slice a3 (d.F 0).length cap3)) (V j) (d.F j)) ∧ (∀ j, 1 ≤ j → V j = .slice none 0 0) ∧ Below w1.heap.size (w1.alloc (.cells #[.slice none 0 0, .slice none 0 0, .slice none 0 0] 40)) (w3.setCell ⟨w1.heap.size, 0, none⟩ (.slice a3 (d.F 0).length cap3)) := by
        have hO : Only (fun k => k = w1.heap.size) w3 (w3.setCell ⟨w1.heap.size, 0, none⟩ (.slice a3 (d.F 0).length cap3)) := (Only.refl (fun k => k = w1.heap.size) w3).set _ _ _ rfl
        refine ⟨_, hV3.set 0 (by decide) _, fun j hj => ?_, fun j hj => ?_, ?_⟩
        · by_cases e : j = 0
          · subst e
            rw [upd_same]
            exact (show New _ _ _ _ from New.mono hn3 (show w1.heap.size + 1 ≤ wr.heap.size from hsz)).only hO (fun k hk _ e => by omega)
          · rw [upd_other _ _ _ _ e]
            exact ((hN j (by omega)).call hb3).only hO (fun k hk _ e => by omega)
        · rw [upd_other _ _ _ _ (by omega)]
          exact hZ j (by omega)
        · exact (hbel.trans (hb3.mono (by omega))).setCell (Nat.le_refl _) _
      have FIN := hide fin
      clear fin hV3 hn3 hN hZ HV
      generalize (d.F 0).length = n3 at *
      go_wp2
      go_roundw
      case rel => exact ⟨1, by omega, by go_num, unhide FIN⟩
      case measure => simp [intOf]
    | 1, _ =>
      obtain ⟨V, hV, hN, hZ, hbel⟩ := hR
      have hdk : Dk wr g S { d with on := true } := (unhide HD2).keep (p := fun k => ¬ k < w1.heap.size) (Only.of_low hbel) (fun k hk q => q ((unhide HD1).ft_lt hk))
      have hrd := hide (read_ok g S { d with on := true } 1 wr hdk rfl (by decide))
      have hsz : w1.heap.size < wr.heap.size := by have := hbel.size; simp at this; omega
      have HV := hide hV
      clear hV hdk
      go_wp2_with fail
      refine (unhide hrd).mono ?_
      rintro e w3 ⟨v3, rfl, hn3, hb3⟩
      obtain ⟨a3, cap3, rfl⟩ := byt_shape (Byt.of_own hn3)
      have hV3 := (unhide HV).keep (hb3.mono hsz)
      obtain ⟨⟨q0, q1, q2⟩, z0, z1, z2⟩ := id hV3
      have fin : ∃ V, Out (w3.setCell ⟨w1.heap.size, 1, none⟩ (.slice a3 (d.F 1).length cap3)) w1.heap.size V ∧ (∀ j, j < 2 → New (w1.heap.size + 1) (w3.setCell ⟨w1.heap.size, 1, none⟩ (.slice a3 (d.F 1).length cap3)) (V j) (d.F j)) ∧ (∀ j, 2 ≤ j → V j = .slice none 0 0) ∧ Below w1.heap.size (w1.alloc (.cells #[.slice none 0 0, .slice none 0 0, .slice none 0 0] 40)) (w3.setCell ⟨w1.heap.size, 1, none⟩ (.slice a3 (d.F 1).length cap3)) := by
        have hO : Only (fun k => k = w1.heap.size) w3 (w3.setCell ⟨w1.heap.size, 1, none⟩ (.slice a3 (d.F 1).length cap3)) := (Only.refl (fun k => k = w1.heap.size) w3).set _ _ _ rfl
        refine ⟨_, hV3.set 1 (by decide) _, fun j hj => ?_, fun j hj => ?_, ?_⟩
        · by_cases e : j = 1
          · subst e
            rw [upd_same]
            exact (show New _ _ _ _ from New.mono hn3 (show w1.heap.size + 1 ≤ wr.heap.size from hsz)).only hO (fun k hk _ e => by omega)
          · rw [upd_other _ _ _ _ e]
            exact ((hN j (by omega)).call hb3).only hO (fun k hk _ e => by omega)
        · rw [upd_other _ _ _ _ (by omega)]
          exact hZ j (by omega)
        · exact (hbel.trans (hb3.mono (by omega))).setCell (Nat.le_refl _) _
      have FIN := hide fin
      clear fin hV3 hn3 hN hZ HV
      generalize (d.F 1).length = n3 at *
      go_wp2
      go_roundw
      case rel => exact ⟨2, by omega, by go_num, unhide FIN⟩
      case measure => simp [intOf]
    | 2, _ =>
      obtain ⟨V, hV, hN, hZ, hbel⟩ := hR
      have hdk : Dk wr g S { d with on := true } := (unhide HD2).keep (p := fun k => ¬ k < w1.heap.size) (Only.of_low hbel) (fun k hk q => q ((unhide HD1).ft_lt hk))
      have hrd := hide (read_ok g S { d with on := true } 2 wr hdk rfl (by decide))
      have hsz : w1.heap.size < wr.heap.size := by have := hbel.size; simp at this; omega
      have HV := hide hV
      clear hV hdk
      go_wp2_with fail
      refine (unhide hrd).mono ?_
      rintro e w3 ⟨v3, rfl, hn3, hb3⟩
      obtain ⟨a3, cap3, rfl⟩ := byt_shape (Byt.of_own hn3)
      have hV3 := (unhide HV).keep (hb3.mono hsz)
      obtain ⟨⟨q0, q1, q2⟩, z0, z1, z2⟩ := id hV3
      have fin : ∃ V, Out (w3.setCell ⟨w1.heap.size, 2, none⟩ (.slice a3 (d.F 2).length cap3)) w1.heap.size V ∧ (∀ j, j < 3 → New (w1.heap.size + 1) (w3.setCell ⟨w1.heap.size, 2, none⟩ (.slice a3 (d.F 2).length cap3)) (V j) (d.F j)) ∧ (∀ j, 3 ≤ j → V j = .slice none 0 0) ∧ Below w1.heap.size (w1.alloc (.cells #[.slice none 0 0, .slice none 0 0, .slice none 0 0] 40)) (w3.setCell ⟨w1.heap.size, 2, none⟩ (.slice a3 (d.F 2).length cap3)) := by
        have hO : Only (fun k => k = w1.heap.size) w3 (w3.setCell ⟨w1.heap.size, 2, none⟩ (.slice a3 (d.F 2).length cap3)) := (Only.refl (fun k => k = w1.heap.size) w3).set _ _ _ rfl
        refine ⟨_, hV3.set 2 (by decide) _, fun j hj => ?_, fun j hj => ?_, ?_⟩
        · by_cases e : j = 2
          · subst e
            rw [upd_same]
            exact (show New _ _ _ _ from New.mono hn3 (show w1.heap.size + 1 ≤ wr.heap.size from hsz)).only hO (fun k hk _ e => by omega)
          · rw [upd_other _ _ _ _ e]
            exact ((hN j (by omega)).call hb3).only hO (fun k hk _ e => by omega)
        · rw [upd_other _ _ _ _ (by omega)]
          exact hZ j (by omega)
        · exact (hbel.trans (hb3.mono (by omega))).setCell (Nat.le_refl _) _
      have FIN := hide fin
      clear fin hV3 hn3 hN hZ HV
      generalize (d.F 2).length = n3 at *
      go_wp2
      go_roundw
      case rel => exact ⟨3, by omega, by go_num, unhide FIN⟩
      case measure => simp [intOf]
    | 3, _ =>
      obtain ⟨V, hV, hN, hZ, hbel⟩ := hR
      obtain ⟨⟨q0, q1, q2⟩, z0, z1, z2⟩ := id hV
      have hb1 : Below w1.heap.size w1 wr := ((Below.refl _ _).alloc (Nat.le_refl _) _).trans hbel
      have hor : Out wr w.heap.size _ := (unhide HR1).keep (hb1.mono hw1)
      obtain ⟨⟨r0, r1, r2⟩, y0, y1, y2⟩ := id hor
      obtain ⟨a0, p0, e0⟩ := (hN 0 (by decide)).shape
      obtain ⟨a1, p1, e1⟩ := (hN 1 (by decide)).shape
      obtain ⟨a2, p2, e2⟩ := (hN 2 (by decide)).shape
      rw [e0] at q0
      rw [e1] at q1
      rw [e2] at q2
      have hO4 : Only (fun k => k = w.heap.size) wr (((wr.setCell ⟨w.heap.size, 0, none⟩ (.slice a0 (d.F 0).length p0)).setCell ⟨w.heap.size, 1, none⟩ (.slice a1 (d.F 1).length p1)).setCell ⟨w.heap.size, 2, none⟩ (.slice a2 (d.F 2).length p2)) :=
        (((Only.refl (fun k => k = w.heap.size) wr).set _ _ _ rfl).set _ _ _ rfl).set _ _ _ rfl
      have n0 := (hN 0 (by decide)).only hO4 (fun k hk _ e => by omega)
      have n1 := (hN 1 (by decide)).only hO4 (fun k hk _ e => by omega)
      have n2 := (hN 2 (by decide)).only hO4 (fun k hk _ e => by omega)
      rw [e0] at n0
      rw [e1] at n1
      rw [e2] at n2
      have hle : w.heap.size ≤ w1.heap.size + 1 := by omega
      have hdk : Dk wr g S { d with on := true } := (unhide HD2).keep (p := fun k => ¬ k < w1.heap.size) (Only.of_low hbel) (fun k hk q => q ((unhide HD1).ft_lt hk))
      have hft : ∀ k, Ft g S k → ¬ k = w.heap.size := by
        intro k hk e
        have := unhide HDW k hk
        omega
      have fin := hide (And.intro (hdk.keep hO4 hft) (And.intro ((((unhide HO2).trans (Only.of_below hb1)).next hO4 (fun i hi => .inr (by omega)))) (And.intro (n0.mono hle) (And.intro (n1.mono hle) (n2.mono hle)))))
      clear hO4 n0 n1 n2 hdk hft hN hZ hV hbel hb1 hor e0 e1 e2
      generalize (d.F 0).length = m0 at *
      generalize (d.F 1).length = m1 at *
      generalize (d.F 2).length = m2 at *
      have s0 : (((wr.setCell ⟨w.heap.size, 0, none⟩ (.slice a0 m0 p0)).setCell ⟨w.heap.size, 1, none⟩ (.slice a1 m1 p1)).setCell ⟨w.heap.size, 2, none⟩ (.slice a2 m2 p2)).cell? ⟨w.heap.size, 0, none⟩ = some (.slice a0 m0 p0) := by
        rw [set_other _ (by decide), set_other _ (by decide)]; exact set_same _ r0
      have s1 : (((wr.setCell ⟨w.heap.size, 0, none⟩ (.slice a0 m0 p0)).setCell ⟨w.heap.size, 1, none⟩ (.slice a1 m1 p1)).setCell ⟨w.heap.size, 2, none⟩ (.slice a2 m2 p2)).cell? ⟨w.heap.size, 1, none⟩ = some (.slice a1 m1 p1) := by
        rw [set_other _ (by decide)]; exact set_same (u := .slice none 0 0) _ (by rw [set_other _ (by decide)]; exact r1)
      have s2 : (((wr.setCell ⟨w.heap.size, 0, none⟩ (.slice a0 m0 p0)).setCell ⟨w.heap.size, 1, none⟩ (.slice a1 m1 p1)).setCell ⟨w.heap.size, 2, none⟩ (.slice a2 m2 p2)).cell? ⟨w.heap.size, 2, none⟩ = some (.slice a2 m2 p2) :=
        set_same (u := .slice none 0 0) _ (by rw [set_other _ (by decide), set_other _ (by decide)]; exact r2)
      have HS := hide (And.intro s0 (And.intro s1 s2))
      clear s0 s1 s2
      go_wp2
      generalize (((wr.setCell ⟨w.heap.size, 0, none⟩ (.slice a0 m0 p0)).setCell ⟨w.heap.size, 1, none⟩ (.slice a1 m1 p1)).setCell ⟨w.heap.size, 2, none⟩ (.slice a2 m2 p2)) = W4 at *
      obtain ⟨s0, s1, s2⟩ := unhide HS
      refine bodyPost_ret (v := .agg #[.slice a0 m0 p0, .slice a1 m1 p1, .slice a2 m2 p2]) (by simp [results, Try.results26, go_sem, s0, s1, s2]) rfl ?_
      exact ⟨_, _, _, rfl, unhide fin⟩
end Go.Proofs.Ytadjgljimikodaa
