/- Words of 32 bits: turned, and stirred. -/
import Derived.Test.YtbnfilhilgjnfaaDoorRows
import Derived.WalkKit
import Derived.ProofKit
import Derived.OpenShut
import Derived.Handy
import Derived.Lib.SmallJoins
import Derived.Lib.LazyBuf
import Derived.BigRegion
import Derived.Laws.BitsAllLaws
import Derived.Laws.Tables
import Derived.Laws.IdiomCopy
namespace Go.Proofs.YtbnfilhilgjnfaaDoor
set_option linter.unusedVariables false
set_option linter.unusedSimpArgs false
open Go.ChangeShapes Go.WideShapes Go.ChangeAt Go.RowKit

theorem hide {p : Prop} (h : p) : Hid p := h
theorem unhide {p : Prop} (h : Hid p) : p := h

/-- a word turned left -/
def rl (x s : Nat) : Nat := x * 2 ^ s % 4294967296 + x / 2 ^ (32 - s)

theorem rl_or (x s : Nat) (hs : s ≤ 32) (hx : x < 4294967296) : (x * 2 ^ s % 4294967296) ||| (x / 2 ^ (32 - s)) = rl x s ∧ rl x s < 4294967296 ∧ x * 2 ^ s % 4294967296 < 4294967296 ∧ x / 2 ^ (32 - s) < 4294967296 ∧ x * 2 ^ s % 4294967296 = 2 ^ s * (x % 2 ^ (32 - s)) := by
  have e : (4294967296 : Nat) = 2 ^ (32 - s) * 2 ^ s := by rw [← Nat.pow_add, show 32 - s + s = 32 by omega]
  have h1 : x * 2 ^ s % 4294967296 = 2 ^ s * (x % 2 ^ (32 - s)) := by
    rw [e, Nat.mul_mod_mul_right, Nat.mul_comm]
  have h2 : x / 2 ^ (32 - s) < 2 ^ s := Nat.div_lt_of_lt_mul (by rw [← e]; exact hx)
  have h3 := Nat.two_pow_add_eq_or_of_lt h2 (x % 2 ^ (32 - s))
  have h4 : x / 2 ^ (32 - s) < 4294967296 := Nat.lt_of_le_of_lt (Nat.div_le_self _ _) hx
  have h5 : rl x s = 2 ^ s * (x % 2 ^ (32 - s)) + x / 2 ^ (32 - s) := by rw [rl, h1]
  refine ⟨by rw [h5, h1, h3], ?_, Nat.mod_lt _ (by decide), h4, h1⟩
  rw [h5]
  have h6 : x % 2 ^ (32 - s) + 1 ≤ 2 ^ (32 - s) := Nat.mod_lt _ (Nat.pos_of_ne_zero (by simp))
  have h7 := Nat.mul_le_mul_left (2 ^ s) h6
  rw [Nat.mul_comm (2 ^ s) (2 ^ (32 - s)), ← e, Nat.mul_add] at h7
  omega
theorem rl_lt (x s : Nat) (hs : s ≤ 32) (hx : x < 4294967296) : rl x s < 4294967296 := (rl_or x s hs hx).2.1
theorem rl_bits (x s : Nat) (hs : s ≤ 32) (hx : x < 4294967296) (p q : Nat) (hp : 2 ^ s = p) (hq : 2 ^ (32 - s) = q) : bits .or .u32 ((x : Int) * (p : Int) % 4294967296) ((x : Int) / (q : Int)) = ((rl x s : Nat) : Int) := by
  subst hp hq
  obtain ⟨h1, h2, h3, h4, _⟩ := rl_or x s hs hx
  rw [← h1, ← u32_or_nat _ _ h3 h4]
  congr 1

set_option maxHeartbeats 1000000 in
theorem rotr16 (x : Nat) (w : World) (hx : x < 4294967296) :
    Calls Tryd.prog 94 #[.int .u32 (x : Int), .int .i64 (-16)] w fun e w' => e = .returned (.int .u32 ((rl x 16 : Nat) : Int)) ∧ w = w' := by
  have hs : bits .and .u64 (IntKind.u64.wrap (-16)) 31 = 16 := by decide
  go_enter Tryd.func94, Tryd.ntmps94
  go_wp2_with fail
  go_ret
  refine ⟨?_, rfl⟩
  have := rl_bits x 16 (by decide) hx 65536 65536 (by decide) (by decide)
  exact congrArg (fun z => Ending.returned (Value.int .u32 z)) this

set_option maxHeartbeats 1000000 in
theorem rotr12 (x : Nat) (w : World) (hx : x < 4294967296) :
    Calls Tryd.prog 94 #[.int .u32 (x : Int), .int .i64 (-12)] w fun e w' => e = .returned (.int .u32 ((rl x 20 : Nat) : Int)) ∧ w = w' := by
  have hs : bits .and .u64 (IntKind.u64.wrap (-12)) 31 = 20 := by decide
  go_enter Tryd.func94, Tryd.ntmps94
  go_wp2_with fail
  go_ret
  refine ⟨?_, rfl⟩
  have := rl_bits x 20 (by decide) hx 1048576 4096 (by decide) (by decide)
  exact congrArg (fun z => Ending.returned (Value.int .u32 z)) this

set_option maxHeartbeats 1000000 in
theorem rotr8 (x : Nat) (w : World) (hx : x < 4294967296) :
    Calls Tryd.prog 94 #[.int .u32 (x : Int), .int .i64 (-8)] w fun e w' => e = .returned (.int .u32 ((rl x 24 : Nat) : Int)) ∧ w = w' := by
  have hs : bits .and .u64 (IntKind.u64.wrap (-8)) 31 = 24 := by decide
  go_enter Tryd.func94, Tryd.ntmps94
  go_wp2_with fail
  go_ret
  refine ⟨?_, rfl⟩
  have := rl_bits x 24 (by decide) hx 16777216 256 (by decide) (by decide)
  exact congrArg (fun z => Ending.returned (Value.int .u32 z)) this

set_option maxHeartbeats 1000000 in
theorem rotr7 (x : Nat) (w : World) (hx : x < 4294967296) :
    Calls Tryd.prog 94 #[.int .u32 (x : Int), .int .i64 (-7)] w fun e w' => e = .returned (.int .u32 ((rl x 25 : Nat) : Int)) ∧ w = w' := by
  have hs : bits .and .u64 (IntKind.u64.wrap (-7)) 31 = 25 := by decide
  go_enter Tryd.func94, Tryd.ntmps94
  go_wp2_with fail
  go_ret
  refine ⟨?_, rfl⟩
  have := rl_bits x 25 (by decide) hx 33554432 128 (by decide) (by decide)
  exact congrArg (fun z => Ending.returned (Value.int .u32 z)) this
end Go.Proofs.YtbnfilhilgjnfaaDoor
