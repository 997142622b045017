/- The document's own Open. -/
import Derived.Test.YtbahnkomdndmkacDoorRefBytes
import Derived.Test.YtbahnkomdndmkacDoorCases
namespace Go.Proofs.YtbahnkomdndmkacDoor
set_option linter.unusedVariables false
set_option linter.unusedSimpArgs false
open Go.ChangeShapes Go.WideShapes Go.ChangeAt Go.RowKit

theorem refleft_any (g : Nat) (a : Option Addr) (n cap k : Nat) (w : World) (h0 : w.cell? ⟨g, 0, none⟩ = some (.slice a n cap)) (h1 : w.cell? ⟨g, 1, none⟩ = some (.int .i64 (k : Int))) (hk : k ≤ n) (hn : n ≤ 1000000000) :
   Calls Tryd.prog 29 #[.pointer (some ⟨g, 0, none⟩)] w fun e w' => e = .returned (.int .i64 ((n : Int) - (k : Int))) ∧ ∃ d, w' = w.drewN d := by
  go_enter Tryd.func29, Tryd.ntmps29
  go_wp2_with fail
  go_quiet (fail)
  go_wp2_with fail
  go_ret
  exact ⟨by go_num, _, rfl⟩

theorem Rd.fresh (w : World) (v : Value) : Rd (w.alloc (.cells #[v, .int .i64 0, .int .i64 0] 38)) w.heap.size v 0 0 := by
  refine ⟨⟨?_, ?_, ?_, ?_, ?_, ?_⟩, ?_⟩ <;> simp

set_option maxRecDepth 100000 in
set_option maxHeartbeats 4000000 in
theorem refopen_bytes (a : Option Addr) (n cap : Nat) (l : List Nat) (e0 : Int) (w : World) (hv : Byt w (.slice a n cap) l) (hl : n ≤ 1000000000) (h256 : ∀ y ∈ l, y < 256) (hbad : BadBytes l 0 16384 e0) :
    Calls Tryd.prog 34 #[.slice a n cap] w fun e w' => e = .returned (.tuple #[.slice none 0 0, .int .i64 0, .int .i64 e0]) ∧ Below w.heap.size w w' := by
  have hb0 : Below w.heap.size w (w.alloc (.cells #[.slice a n cap, .int .i64 0, .int .i64 0] 38)) := (Below.refl _ _).alloc (Nat.le_refl _) _
  have hrd := Rd.fresh w (.slice a n cap)
  have hpos := bad_pos hbad
  have HC := hide (refbytes_bad w.heap.size a n cap l e0 _ (hv.call hb0) hrd hl h256 hbad)
  have HRD := hide hrd
  have HB0 := hide hb0
  have hnb : (e0 != 0) = true := by simpa using hpos
  clear hv h256 hbad hrd hb0
  go_enter Tryd.func34, Tryd.ntmps34
  go_wp2_with fail
  refine (unhide HC).mono ?_
  rintro e w1 ⟨rfl, d, rfl⟩
  have hR := (unhide HRD).below (Joins.below_draws (w.heap.size + 1) _ d)
  have hc2 := set_same (.int .i64 e0) hR.1.2.2.1
  have HB1 := hide (((unhide HB0).trans (Joins.below_draws _ _ d)).setCell (p := ⟨w.heap.size, 2, none⟩) (Nat.le_refl _) (.int .i64 e0))
  generalize (World.setCell (World.drewN (w.alloc (.cells #[.slice a n cap, .int .i64 0, .int .i64 0] 38)) d) ⟨w.heap.size, 2, none⟩ (.int .i64 e0)) = V at *
  clear hR
  go_wp2_with fail
  go_quiet (fail)
  go_wp2_with fail
  go_ret3
  exact ⟨rfl, (unhide HB1).trans (Joins.below_draws _ _ _)⟩

set_option maxRecDepth 100000 in
set_option maxHeartbeats 4000000 in
theorem refopen_short (a : Option Addr) (n cap : Nat) (l : List Nat) (w : World) (hv : Byt w (.slice a n cap) l) (hg : Low (.slice a n cap) w.heap.size) (hl : n ≤ 1000000000) (h256 : ∀ y ∈ l, y < 256)
    (m : Nat) (hm : numOf (l.take 8) = m) (h8 : 8 + m ≤ n) (hmost : m ≤ 16384) (hs : n < 8 + m + 4) :
    Calls Tryd.prog 34 #[.slice a n cap] w fun e w' => e = .returned (.tuple #[.slice none 0 0, .int .i64 0, .int .i64 2]) ∧ Below w.heap.size w w' := by
  have hb0 : Below w.heap.size w (w.alloc (.cells #[.slice a n cap, .int .i64 0, .int .i64 0] 38)) := (Below.refl _ _).alloc (Nat.le_refl _) _
  have hrd := Rd.fresh w (.slice a n cap)
  have HC := hide (refbytes_any w.heap.size a n cap l _ (hv.call hb0) hrd hg hl h256 m hm h8 hmost)
  have HB0 := hide hb0
  have g1 : decide ((n : Int) - ((8 + m : Nat) : Int) < 4) = true := by simp; omega
  clear hv h256 hrd hb0 hm
  go_enter Tryd.func34, Tryd.ntmps34
  go_wp2_with fail
  refine (unhide HC).mono ?_
  rintro e w1 ⟨v1, rfl, hown, hR, hB⟩
  have HL := hide (refleft_any w.heap.size a n cap (8 + m) w1 hR.1.1 hR.1.2.1 h8 hl)
  have hF := hR.1
  have HB1 := hide ((unhide HB0).trans hB)
  clear hown hR hB
  go_wp2_with fail
  refine (unhide HL).mono ?_
  rintro e w2 ⟨rfl, d, rfl⟩
  go_wp2_with fail
  go_ret3
  exact ⟨rfl, (unhide HB1).trans (Joins.below_draws _ _ _)⟩
end Go.Proofs.YtbahnkomdndmkacDoor
