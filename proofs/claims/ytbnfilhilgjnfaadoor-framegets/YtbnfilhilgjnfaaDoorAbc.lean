/- The example's digest. -/
import Derived.Test.YtbnfilhilgjnfaaDoorStart
namespace Go.Proofs.YtbnfilhilgjnfaaDoor
def nfOf (all : List Nat) : Nat := (all.length - 1) / 64
def sumL (h0 all : List Nat) : List Nat := bytesOf (foldL (hsK h0 all (nfOf all)) (padK (all.drop (64 * nfOf all))) all.length true) 8
set_option maxRecDepth 100000 in
theorem abc : sumL (stW 0) [97, 98, 99] = [80, 140, 94, 140, 50, 124, 20, 226, 225, 167, 43, 163, 78, 235, 69, 47, 55, 69, 139, 32, 158, 214, 58, 41, 77, 153, 155, 76, 134, 103, 89, 130] := by kernel_rfl
end Go.Proofs.YtbnfilhilgjnfaaDoor
