/- The document's index: New. -/
import Derived.Test.YtdnbhomjfgpcfaaDoorLRM
import Derived.Test.YtdnbhomjfgpcfaaDoorLCh
namespace Go.Proofs.YtdnbhomjfgpcfaaDoor
set_option linter.unusedVariables false
set_option linter.unusedSimpArgs false
open Go.ChangeShapes Go.WideShapes Go.ChangeAt Go.RowKit Go.Joins Go.Deep

/-- the document's index in block g -/
structure RIx (w : World) (B g : Nat) (vr : Value) (cs : List (List UInt8)) : Prop where
  row : RowAt w g 42 [vr]
  r : w.ownsRow B 21 1 vr cs.length (rnv cs)
  gB : B ≤ g
theorem RIx.call {w w' : World} {B g : Nat} {vr : Value} {cs : List (List UInt8)} (h : RIx w B g vr cs) (hb : Below w.heap.size w w') : RIx w' B g vr cs := ⟨h.row.below hb h.row.lt, own_call h.r hb, h.gB⟩
theorem RIx.one {w : World} {B g : Nat} {vr : Value} {cs : List (List UInt8)} (h : RIx w B g vr cs) : ∃ ar cr, vr = .slice ar cs.length cr ∧ w.cell? ⟨g, 0, none⟩ = some (.slice ar cs.length cr) ∧ cs.length ≤ cr ∧ cr ≤ maxLen := by
  obtain ⟨ar, cr, e, h1, h2⟩ := own_sl h.r
  refine ⟨ar, cr, e, ?_, h1, h2⟩
  rw [h.row.cell, ← e]
  rfl
def RNewR (s : ByteArray) (w : World) (r : Ending) (w' : World) : Prop := (Lib.validD s.data.toList = false ∧ r = .returned (.tuple #[.pointer none, .int .i64 21]) ∨ ∃ cs g vr, Tx s cs ∧ r = .returned (.tuple #[.pointer (some ⟨g, 0, none⟩), .int .i64 0]) ∧ RIx w' w.heap.size g vr cs) ∧ Below w.heap.size w w'
set_option maxRecDepth 100000 in
set_option maxHeartbeats 4000000 in
theorem rnew_any (s : ByteArray) (w : World) (hs : s.size ≤ 1099511627776) : Calls Tryd.prog 15 #[.string s] w fun r w' => RNewR s w r w' := by
  have K := hide (chars_any s w hs)
  go_enter Tryd.func15, Tryd.ntmps15
  go_wp2_with fail
  refine Calls.mono (unhide K) ?_
  rintro r w1 h1
  obtain ⟨v, n, l, rfl, ho, hl, hns, hb⟩ := h1
  obtain ⟨a, c, rfl, hc1, hc2⟩ := own_sl ho
  have HO := hide ho
  have HL := hide hl
  have B1 := hide hb
  clear ho hl hb K
  cases hv : Lib.validD s.data.toList with
  | false =>
    go_wp2_with fail
    go_ret2
    exact ⟨.inl ⟨hv, rfl⟩, unhide B1⟩
  | true =>
    obtain ⟨cs, hx⟩ := tx_of_valid hv
    obtain ⟨e1, e2⟩ := unhide HL cs hx
    subst e1 e2
    have hal : Below w1.heap.size w1 (w1.alloc (.cells #[.slice a cs.length c] 42)) := (Below.refl _ _).alloc (Nat.le_refl _) _
    have HI : Hid (RIx (w1.alloc (.cells #[.slice a cs.length c] 42)) w.heap.size w1.heap.size (.slice a cs.length c) cs) := hide ⟨RowAt.new w1 42 _, own_call (unhide HO) hal, (unhide B1).size⟩
    have B2 := hide ((unhide B1).trans (hal.mono (unhide B1).size))
    have HX := hide hx
    clear hal HO HL B1 hx
    obtain ⟨n, hn⟩ : ∃ n, cs.length = n := ⟨_, rfl⟩
    rw [hn] at HI B2 hc1 ⊢
    clear hn hns
    go_wp2_with fail
    go_ret2
    exact ⟨.inr ⟨cs, _, _, unhide HX, rfl, unhide HI⟩, unhide B2⟩
end Go.Proofs.YtdnbhomjfgpcfaaDoor
