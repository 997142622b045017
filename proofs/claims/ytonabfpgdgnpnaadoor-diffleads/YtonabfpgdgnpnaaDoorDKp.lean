/- The table: kept, same, drops, best. -/
import Derived.Test.YtonabfpgdgnpnaaDoorDPl
namespace Go.Proofs.YtonabfpgdgnpnaaDoor
set_option linter.unusedVariables false
set_option linter.unusedSimpArgs false
open Go.ChangeShapes Go.WideShapes Go.ChangeAt Go.RowKit Go.Joins Go.Deep

theorem Tb.parts {w : World} {Ba Bb Bm : Nat} {va vb vm : Value} {x y : List CP} {M : List Nat} (h : Tb w Ba Bb Bm va vb vm x y M) : ∃ aa ca ab cb gm cm, va = .slice aa x.length ca ∧ vb = .slice ab y.length cb ∧ vm = .slice (some ⟨gm, 0, none⟩) M.length cm ∧ x.length ≤ ca ∧ ca ≤ maxLen ∧ y.length ≤ cb ∧ cb ≤ maxLen ∧ M.length ≤ cm ∧ cm ≤ maxLen := by
  obtain ⟨aa, ca, rfl, h1, h2⟩ := own_sl h.a
  obtain ⟨ab, cb, rfl, h3, h4⟩ := own_sl h.b
  have hpos : 0 < M.length := by rw [h.len]; exact Nat.mul_pos (by omega) (by omega)
  obtain ⟨gm, cm, e, _, _, h5, h6⟩ := own_rd h.m (i := 0) (u := .int .u16 (M[0] : Int)) (by simp [u16v, List.getElem?_eq_getElem hpos])
  exact ⟨aa, ca, ab, cb, gm, cm, rfl, rfl, e, h1, h2, h3, h4, h5, h6⟩
theorem Tb.at_ {w : World} {Ba Bb Bm gm n cm : Nat} {va vb : Value} {x y : List CP} {M : List Nat} (h : Tb w Ba Bb Bm va vb (.slice (some ⟨gm, 0, none⟩) n cm) x y M) {p m : Nat} (hm : M[p]? = some m) : w.cell? ⟨gm, p, none⟩ = some (.int .u16 (m : Int)) := by
  obtain ⟨g, c, e, hc, _⟩ := own_rd h.m (i := p) (u := .int .u16 (m : Int)) (by simp [u16v, hm])
  injection e with e1 _ e3
  injection e1 with e1
  injection e1 with e1 _ _
  subst e1
  exact hc
set_option maxRecDepth 100000 in
set_option maxHeartbeats 4000000 in
theorem kept_any {w : World} {Ba Bb Bm : Nat} {va vb vm : Value} {x y : List CP} {M : List Nat} (h : Tb w Ba Bb Bm va vb vm x y M) {i j m : Nat} (hi : i ≤ x.length) (hj : j ≤ y.length) (hm : M[i * (y.length + 1) + j]? = some m) (hm16 : m ≤ 65535) :
    Calls Tryd.prog 36 #[.agg #[va, vb, vm], .int .i64 (i : Int), .int .i64 (j : Int)] w fun r w' => r = .returned (.int .i64 (m : Int)) ∧ Below w.heap.size w w' := by
  obtain ⟨aa, ca, ab, cb, gm, cm, rfl, rfl, rfl, hca, hca2, hcb, hcb2, hcm, hcm2⟩ := h.parts
  have hnx := h.nx
  have hny := h.ny
  have hlen := h.len
  have KP := hide (fun W => place_any (.slice aa x.length ca) (.slice (some ⟨gm, 0, none⟩) M.length cm) ab y.length cb i j W (by omega) (by omega) hny)
  have hPl := (List.getElem?_eq_some_iff.1 hm).1
  have hcm' := h.at_ hm
  have hPs := place_small (i := i) (j := j) (m := y.length) (by omega) (by omega) hny
  obtain ⟨P, hP⟩ : ∃ z, i * (y.length + 1) + j = z := ⟨_, rfl⟩
  rw [hP] at KP hPl hcm' hPs
  have hcm := hcm'
  clear hcm' hm h hlen hP
  obtain ⟨na, hna⟩ : ∃ z, x.length = z := ⟨_, rfl⟩
  obtain ⟨nb, hnb⟩ : ∃ z, y.length = z := ⟨_, rfl⟩
  obtain ⟨nm, hnm⟩ : ∃ z, M.length = z := ⟨_, rfl⟩
  rw [hna] at KP hca ⊢
  rw [hnb] at KP hcb ⊢
  rw [hnm] at KP hPl ⊢
  clear hna hnb hnm hi hj hnx hny
  have hcm := hcm
  have hb0 : Below w.heap.size w (w.alloc (.cells #[.slice aa na ca, .slice ab nb cb, .slice (some ⟨gm, 0, none⟩) nm cm] 63)) := (Below.refl _ _).alloc (Nat.le_refl _) _
  have hr0 := RowAt.new w 63 [.slice aa na ca, .slice ab nb cb, .slice (some ⟨gm, 0, none⟩) nm cm]
  have HS : Hid (∀ W, Below (w.alloc (.cells #[.slice aa na ca, .slice ab nb cb, .slice (some ⟨gm, 0, none⟩) nm cm] 63)).heap.size (w.alloc (.cells #[.slice aa na ca, .slice ab nb cb, .slice (some ⟨gm, 0, none⟩) nm cm] 63)) W → W.cell? ⟨w.heap.size, 0, none⟩ = some (.slice aa na ca) ∧ W.cell? ⟨w.heap.size, 1, none⟩ = some (.slice ab nb cb) ∧ W.cell? ⟨w.heap.size, 2, none⟩ = some (.slice (some ⟨gm, 0, none⟩) nm cm) ∧ W.cell? ⟨gm, P, none⟩ = some (.int .u16 (m : Int))) := hide (fun W hW => ⟨kept hW (hr0.cell 0), kept hW (hr0.cell 1), kept hW (hr0.cell 2), kept hW (kept hb0 hcm)⟩)
  have HB := hide hb0
  clear hr0 hb0
  clear hcm
  have hP0 : (0 : Int) ≤ (P : Int) := by omega
  have hP1 : (P : Int) < (nm : Int) := by omega
  go_enter Tryd.func36, Tryd.ntmps36
  go_wp2_with fail
  obtain ⟨wA, hA⟩ : ∃ wA, (w.alloc (.cells #[.slice aa na ca, .slice ab nb cb, .slice (some ⟨gm, 0, none⟩) nm cm] 63)) = wA := ⟨_, rfl⟩
  rw [hA] at HS HB ⊢
  clear hA
  have k0 : Below wA.heap.size wA wA.drew := (Below.refl _ _).drew
  go_region_held3 (fun W => W.cell? ⟨w.heap.size, 0, none⟩ = some (.slice aa na ca) ∧ W.cell? ⟨w.heap.size, 1, none⟩ = some (.slice ab nb cb) ∧ W.cell? ⟨w.heap.size, 2, none⟩ = some (.slice (some ⟨gm, 0, none⟩) nm cm) ∧ W.cell? ⟨gm, P, none⟩ = some (.int .u16 (m : Int)))
    (first | exact unhide HS _ k0 | exact unhide HS _ k1)
    (first | (go_at_call 57; refine Calls.mono (unhide KP wA.drew) ?_; rintro e w2 ⟨rfl, b2⟩; have k1 : Below wA.heap.size wA w2 := k0.trans (b2.mono k0.size)))
  have HB3 := hide ((unhide HB).trans (k1.mono (unhide HB).size))
  clear k0 k1 b2 HS KP
  go_wp2_with fail
  go_ret
  exact ⟨by first | rfl | (simp; done) | (simp; rw [IntKind.wrap_i64]; omega), unhide HB3⟩
end Go.Proofs.YtonabfpgdgnpnaaDoor
