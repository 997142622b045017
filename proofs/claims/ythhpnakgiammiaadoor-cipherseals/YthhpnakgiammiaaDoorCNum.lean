/- What the example of the cipher's law reckons. -/
import Derived.Test.YthhpnakgiammiaaDoorCOpen
namespace Go.Proofs.YthhpnakgiammiaaDoor
set_option linter.unusedVariables false
set_option linter.unusedSimpArgs false
open Go.ChangeShapes Go.WideShapes Go.ChangeAt Go.RowKit Go.Joins

set_option maxRecDepth 100000 in
theorem num_turn : tkL (List.replicate 32 0) 0 (List.replicate 8 0) = [118, 184, 224, 173, 160, 241, 61, 144] := by kernel_rfl
set_option maxRecDepth 100000 in
theorem num_back : tkL (List.replicate 64 0) 7 (tkL (List.replicate 64 0) 7 [97, 98, 99]) = [97, 98, 99] := by kernel_rfl
set_option maxRecDepth 100000 in
theorem num_other : decide (tagL (List.replicate 64 0) 7 [104] (tkL (List.replicate 64 0) 7 [97, 98, 99]) = tagL (List.replicate 64 0) 7 [105] (tkL (List.replicate 64 0) 7 [97, 98, 99])) = false := by kernel_rfl
end Go.Proofs.YthhpnakgiammiaaDoor
