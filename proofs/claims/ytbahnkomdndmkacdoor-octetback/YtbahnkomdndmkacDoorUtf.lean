/- Texts. -/
import Derived.Test.YtbahnkomdndmkacDoorReader
import Derived.Shelf.Utf8.RuneCount
import Derived.Shelf.Lay
import Derived.Ground.NamesProg
import Derived.Lib.Agree
namespace Go.Proofs.YtbahnkomdndmkacDoor
set_option linter.unusedVariables false
set_option linter.unusedSimpArgs false
open Go.ChangeShapes Go.WideShapes Go.ChangeAt Go.RowKit Go.Shelf

shelf_lay Lays.n195 Nm 195 at Tryd as Tryd.lays195
theorem fCount : Tryd.lays195_ren.f 195 = 40 := by kernel_rfl

theorem counts_any (s : ByteArray) (w : World) (hs : s.size < 9223372036854775807) :
    Calls Tryd.prog 40 #[.string s] w fun e w' => e = .returned (.int .i64 (Lib.runeCount s)) ∧ ∃ pos, w' = w.alloc (.stringIter s pos) := by
  have h := Any.utf8_RuneCountInString Tryd.lays195 s w hs
  rw [fCount] at h
  exact h

/-- what utf8's tables hold of one letter -/
def Tabs (w : World) : Prop := w.cell? ⟨0, 195, none⟩ = some (.int .u8 2) ∧ w.cell? ⟨1, 0, none⟩ = some (.int .u8 128) ∧ w.cell? ⟨1, 1, none⟩ = some (.int .u8 191)
theorem Tabs.below {w w' : World} (h : Tabs w) (hb : Below w.heap.size w w') : Tabs w' := ⟨cell_keep hb (lt_of_cell h.1) h.1, cell_keep hb (lt_of_cell h.2.1) h.2.1, cell_keep hb (lt_of_cell h.2.2) h.2.2⟩
theorem Tabs.low {w w' : World} {g : Nat} (h : Tabs w) (hg : 2 ≤ g) (hb : Below g w w') : Tabs w' := ⟨cell_keep hb (show 0 < g by omega) h.1, cell_keep hb (show 1 < g by omega) h.2.1, cell_keep hb (show 1 < g by omega) h.2.2⟩

def lenOf : Value → Nat
  | .slice _ n _ => n
  | _ => 0
set_option maxRecDepth 1000000 in
set_option maxHeartbeats 4000000 in
theorem valid_e (b off cap : Nat) (w : World) (hT : Tabs w) (h0 : w.cell? ⟨b, off, none⟩ = some (.int .u8 195)) (h1 : w.cell? ⟨b, off + 1, none⟩ = some (.int .u8 169)) (hc : 2 ≤ cap) :
    Calls Tryd.prog 56 #[.slice (some ⟨b, off, none⟩) 2 cap] w fun e w' => e = .returned (.bool true) ∧ Below w.heap.size w w' := by
  have hT' := hT
  obtain ⟨t0, t1, t2⟩ := hT
  go_enter Tryd.func56, Tryd.ntmps56
  go_wp2_with fail
  go_loopw [0] (fun v wr => (v = .slice (some ⟨b, off, none⟩) 2 2 ∧ wr = w) ∨ ((∃ a c, v = .slice a 0 c) ∧ Below w.heap.size w wr)) (fun v _ => lenOf v)
  case atStart => exact .inl ⟨rfl, rfl⟩
  case round =>
    rcases hrel with ⟨rfl, hw⟩ | ⟨⟨a, c, rfl⟩, hb⟩
    · subst hw
      rename World => w
      go_wp2_with fail
      have hB : Below w.heap.size w (w.alloc (.cells #[.int .u8 128, .int .u8 191] 76)) := (Below.refl _ _).alloc (Nat.le_refl _) _
      have k0 : (w.alloc (.cells #[.int .u8 128, .int .u8 191] 76)).cell? ⟨w.heap.size, 0, none⟩ = some (.int .u8 128) := by simp [go_sem]
      have k1 : (w.alloc (.cells #[.int .u8 128, .int .u8 191] 76)).cell? ⟨w.heap.size, 1, none⟩ = some (.int .u8 191) := by simp [go_sem]
      have k2 := cell_keep hB (lt_of_cell h0) h0
      have k3 := cell_keep hB (lt_of_cell h1) h1
      generalize (w.alloc (.cells #[.int .u8 128, .int .u8 191] 76)) = w1 at *
      go_quiet (fail)
      go_wp2_with fail
      go_roundw
      case rel => exact .inr ⟨⟨_, _, rfl⟩, hB.trans (Joins.below_draws _ _ nq)⟩
      case measure => simp [lenOf]
    · go_wp2_with fail
      go_ret
      exact ⟨rfl, hb⟩
end Go.Proofs.YtbahnkomdndmkacDoor
