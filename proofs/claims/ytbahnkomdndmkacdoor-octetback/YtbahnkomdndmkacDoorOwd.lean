/- utf8.word over bytes in memory: the number that eight bytes spell, the least first. -/
import Derived.Test.YtbahnkomdndmkacDoorText
import Derived.Shelf.Unicode.ValidAny
namespace Go.Proofs.YtbahnkomdndmkacDoor
set_option linter.unusedVariables false
set_option linter.unusedSimpArgs false
open Go.ChangeShapes Go.WideShapes Go.ChangeAt Go.RowKit Go.Shelf

set_option maxHeartbeats 8000000 in
set_option maxRecDepth 100000 in
theorem word_any (b off n cap : Nat) (x0 x1 x2 x3 x4 x5 x6 x7 : UInt8) (w : World) (hn : 8 ≤ n)
    (c0 : w.cell? ⟨b, off, none⟩ = some (.int .u8 (x0.toNat : Int)))
    (c1 : w.cell? ⟨b, off + 1, none⟩ = some (.int .u8 (x1.toNat : Int)))
    (c2 : w.cell? ⟨b, off + 2, none⟩ = some (.int .u8 (x2.toNat : Int)))
    (c3 : w.cell? ⟨b, off + 3, none⟩ = some (.int .u8 (x3.toNat : Int)))
    (c4 : w.cell? ⟨b, off + 4, none⟩ = some (.int .u8 (x4.toNat : Int)))
    (c5 : w.cell? ⟨b, off + 5, none⟩ = some (.int .u8 (x5.toNat : Int)))
    (c6 : w.cell? ⟨b, off + 6, none⟩ = some (.int .u8 (x6.toNat : Int)))
    (c7 : w.cell? ⟨b, off + 7, none⟩ = some (.int .u8 (x7.toNat : Int)))
    : Calls Tryd.prog 58 #[.slice (some ⟨b, off, none⟩) n cap] w fun e w' => e = .returned (.int .u64 (Lib.leNat [x0, x1, x2, x3, x4, x5, x6, x7])) ∧ ∃ q, w' = w.drewN q := by
  have h0 : x0.toNat < 256 := x0.toNat_lt
  have q0 : (0 : Int) < (n : Int) := by omega
  have p0 : 0 < n := by omega
  have h1 : x1.toNat < 256 := x1.toNat_lt
  have q1 : (1 : Int) < (n : Int) := by omega
  have p1 : 1 < n := by omega
  have h2 : x2.toNat < 256 := x2.toNat_lt
  have q2 : (2 : Int) < (n : Int) := by omega
  have p2 : 2 < n := by omega
  have h3 : x3.toNat < 256 := x3.toNat_lt
  have q3 : (3 : Int) < (n : Int) := by omega
  have p3 : 3 < n := by omega
  have h4 : x4.toNat < 256 := x4.toNat_lt
  have q4 : (4 : Int) < (n : Int) := by omega
  have p4 : 4 < n := by omega
  have h5 : x5.toNat < 256 := x5.toNat_lt
  have q5 : (5 : Int) < (n : Int) := by omega
  have p5 : 5 < n := by omega
  have h6 : x6.toNat < 256 := x6.toNat_lt
  have q6 : (6 : Int) < (n : Int) := by omega
  have p6 : 6 < n := by omega
  have h7 : x7.toNat < 256 := x7.toNat_lt
  have q7 : (7 : Int) < (n : Int) := by omega
  have p7 : 7 < n := by omega
  have hv : ((Lib.leNat [x0, x1, x2, x3, x4, x5, x6, x7] : Nat) : Int) = (x0.toNat : Int) + (x1.toNat : Int) * 256 + (x2.toNat : Int) * 65536 + (x3.toNat : Int) * 16777216 + (x4.toNat : Int) * 4294967296 + (x5.toNat : Int) * 1099511627776 + (x6.toNat : Int) * 281474976710656 + (x7.toNat : Int) * 72057594037927936 := by
    simp only [Lib.leNat]
    push_cast
    omega
  have mixed : Tryd.prog.follows Departure.mixedOrders = true := by kernel_rfl
  go_enter Tryd.func58, Tryd.ntmps58
  go_wp2
  go_quiet_o (fail)
  go_wp2
  go_ret
  refine ⟨?_, _, rfl⟩
  simp (disch := omega) only [u64_wrap_id, u64_or8, u64_or16, u64_or24, u64_or32, u64_or40, u64_or48, u64_or56]
  rw [hv]
  rfl
end Go.Proofs.YtbahnkomdndmkacDoor
