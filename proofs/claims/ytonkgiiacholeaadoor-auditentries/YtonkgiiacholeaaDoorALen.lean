/- How many binary digits a number below 2^41 has: math/bits.Len64 and Len, by their text. -/
import Derived.Test.YtonkgiiacholeaaDoorChecked
import Derived.Lib.Strings
import Derived.Lib.Slices
import Derived.Lib.Small
import Derived.Lib.Walk
import Derived.Lib.BitFns
namespace Go.Proofs.YtonkgiiacholeaaDoor
set_option linter.unusedVariables false

/-- one byte of a number, and how much stands behind it -/
theorem digit_at (x y : Int) (d s : Nat) (hy : y = (d : Int)) (hd : d ≤ 255) (hs : Lib.bitLen x.toNat = s + Lib.bitLen d) : 0 ≤ Lib.len8 y ∧ Lib.len8 y ≤ 8 ∧ (s : Int) + Lib.len8 y = (Lib.bitLen x.toNat : Int) := by
  have h1 := Lib.len8_of y (by omega) (by omega)
  have h2 := Lib.bitLen_le8' y (by omega) (by omega)
  rw [hy, Int.toNat_natCast] at h1 h2
  rw [hy, h1, hs]
  omega
set_option maxHeartbeats 4000000 in
set_option maxRecDepth 100000 in
theorem len64_int (x : Int) (w : World) (h0 : 0 ≤ x) (h1 : x ≤ 1099511627776) :
    Calls Tryd.prog 94 #[.int .u64 x] w fun e w' => e = .returned (.int .i64 (Lib.bitLen x.toNat : Int)) ∧ w = w' := by
  go_enter Tryd.func94, Tryd.ntmps94
  go_wp2
  all_goals (go_ret; refine ⟨congrArg Ending.returned (congrArg (Value.int IntKind.i64) ?_), rfl⟩)
  · have q := digit_at x (x / 4294967296 / 256 % 256) (x.toNat / 1099511627776) 40 (by omega) (by omega) (Lib.bitLen_shift40 x.toNat (by omega) (by omega))
    omega
  · have q := digit_at x (x / 4294967296 % 256) (x.toNat / 4294967296) 32 (by omega) (by omega) (Lib.bitLen_shift32 x.toNat (by omega) (by omega))
    omega
  · have q := digit_at x (x / 65536 / 256 % 256) (x.toNat / 16777216) 24 (by omega) (by omega) (Lib.bitLen_shift24 x.toNat (by omega) (by omega))
    omega
  · have q := digit_at x (x / 65536 % 256) (x.toNat / 65536) 16 (by omega) (by omega) (Lib.bitLen_shift16 x.toNat (by omega) (by omega))
    omega
  · have q := digit_at x (x / 256 % 256) (x.toNat / 256) 8 (by omega) (by omega) (Lib.bitLen_shift8 x.toNat (by omega) (by omega))
    omega
  · have q := digit_at x (x % 256) x.toNat 0 (by omega) (by omega) (by omega)
    omega
end Go.Proofs.YtonkgiiacholeaaDoor
