/-
  NARROWER THAN 'FOR EVERY INPUT', by the rows' own cells (each row's printed sentence says how): FrameTrip: laid · AuditRoots: laid · AuditEntries: laid · AuditProofs: laid · AuditProves: laid · AuditGrown: laid · AuditGrows: laid · AuditHolds: laid · AuditStays: laid · AuditShort: laid · AuditNobody: laid.
  DERIVED. THE GIVEN ROWS OF THIS SEAT. 11 by the template 'for every input the law returns true; each argument reads behind the call as it read before'; 0 by the template 'total and deterministic' (their statements: YtonkgiiacholeaaDoorTotals.lean).
  GIVEN WITH THE SEED: the statements are not yours to turn. If you find one false, say at which input.
  Laid BY PROGRAM, IN A SANDBOX (cutbox-rows.mjs): the forced cells as the released guide's own fill.sh prints them over the translation 6909682bf5bc3e87… (all of the seat's roots in one cut). By AI agents, Wed Nov 11 2026. No macro, syntax, notation, axiom, sorry.
-/
import Derived.Test.YtonkgiiacholeaaDoorChecked
import GoSem.PinnedTables
import GoSem.Claim
import GoSem.ClaimJoined
import GoSem.ClaimMapViews
import Derived.JoinedTies
import Derived.KernelRfl
namespace Go.Proofs.YtonkgiiacholeaaDoor
/- THE CELL 'sum', in the pinned program and in every row, IS THE sha256 OF THE DUMP (.gsa) THAT YtonkgiiacholeaaDoorProg.lean LOADS. Nothing in Lean hashes anything: it is a label: what it is worth is what the hold of that sum in a sandbox is worth. -/
noncomputable def Tryd.pinned : Pinned := { name := "ytonkgiiacholeaadoor", sum := "6909682bf5bc3e873ee44a12a99d3c1b66d1b562fc7a65c631cd2e67489f43b7", checked := Tryd.checked }
namespace Rows
def none {H : Type} : Left H := { results := [], args := [] }

/- WHAT THE LISTED PACKAGE-LEVEL VARIABLES READ AS WHEN THE CALL BEGINS. Each datum BY PROGRAM (the guide's laid-datum.mjs) off the statement by which the dump's own 'gosem.cut.vars' lays the variable. In a bare row this is a premise. The card (YtonkgiiacholeaaDoorCards.lean) ties it to the program's text. -/
def laid_unicode_utf8_acceptRanges {H : Type} : DataW H := .agg [.agg [.lit (.int .u8 128), .lit (.int .u8 191)], .agg [.lit (.int .u8 160), .lit (.int .u8 191)], .agg [.lit (.int .u8 128), .lit (.int .u8 159)], .agg [.lit (.int .u8 144), .lit (.int .u8 191)], .agg [.lit (.int .u8 128), .lit (.int .u8 143)], .agg [.lit (.int .u8 0), .lit (.int .u8 0)], .agg [.lit (.int .u8 0), .lit (.int .u8 0)], .agg [.lit (.int .u8 0), .lit (.int .u8 0)], .agg [.lit (.int .u8 0), .lit (.int .u8 0)], .agg [.lit (.int .u8 0), .lit (.int .u8 0)], .agg [.lit (.int .u8 0), .lit (.int .u8 0)], .agg [.lit (.int .u8 0), .lit (.int .u8 0)], .agg [.lit (.int .u8 0), .lit (.int .u8 0)], .agg [.lit (.int .u8 0), .lit (.int .u8 0)], .agg [.lit (.int .u8 0), .lit (.int .u8 0)], .agg [.lit (.int .u8 0), .lit (.int .u8 0)]]
def laid_sealskin_hash_first {H : Type} : DataW H := .agg [.lit (.int .u32 1779033703), .lit (.int .u32 3144134277), .lit (.int .u32 1013904242), .lit (.int .u32 2773480762), .lit (.int .u32 1359893119), .lit (.int .u32 2600822924), .lit (.int .u32 528734635), .lit (.int .u32 1541459225)]
def laid_sealskin_hash_orders {H : Type} : DataW H := .agg [.agg [.lit (.int .u8 0), .lit (.int .u8 1), .lit (.int .u8 2), .lit (.int .u8 3), .lit (.int .u8 4), .lit (.int .u8 5), .lit (.int .u8 6), .lit (.int .u8 7), .lit (.int .u8 8), .lit (.int .u8 9), .lit (.int .u8 10), .lit (.int .u8 11), .lit (.int .u8 12), .lit (.int .u8 13), .lit (.int .u8 14), .lit (.int .u8 15)], .agg [.lit (.int .u8 14), .lit (.int .u8 10), .lit (.int .u8 4), .lit (.int .u8 8), .lit (.int .u8 9), .lit (.int .u8 15), .lit (.int .u8 13), .lit (.int .u8 6), .lit (.int .u8 1), .lit (.int .u8 12), .lit (.int .u8 0), .lit (.int .u8 2), .lit (.int .u8 11), .lit (.int .u8 7), .lit (.int .u8 5), .lit (.int .u8 3)], .agg [.lit (.int .u8 11), .lit (.int .u8 8), .lit (.int .u8 12), .lit (.int .u8 0), .lit (.int .u8 5), .lit (.int .u8 2), .lit (.int .u8 15), .lit (.int .u8 13), .lit (.int .u8 10), .lit (.int .u8 14), .lit (.int .u8 3), .lit (.int .u8 6), .lit (.int .u8 7), .lit (.int .u8 1), .lit (.int .u8 9), .lit (.int .u8 4)], .agg [.lit (.int .u8 7), .lit (.int .u8 9), .lit (.int .u8 3), .lit (.int .u8 1), .lit (.int .u8 13), .lit (.int .u8 12), .lit (.int .u8 11), .lit (.int .u8 14), .lit (.int .u8 2), .lit (.int .u8 6), .lit (.int .u8 5), .lit (.int .u8 10), .lit (.int .u8 4), .lit (.int .u8 0), .lit (.int .u8 15), .lit (.int .u8 8)], .agg [.lit (.int .u8 9), .lit (.int .u8 0), .lit (.int .u8 5), .lit (.int .u8 7), .lit (.int .u8 2), .lit (.int .u8 4), .lit (.int .u8 10), .lit (.int .u8 15), .lit (.int .u8 14), .lit (.int .u8 1), .lit (.int .u8 11), .lit (.int .u8 12), .lit (.int .u8 6), .lit (.int .u8 8), .lit (.int .u8 3), .lit (.int .u8 13)], .agg [.lit (.int .u8 2), .lit (.int .u8 12), .lit (.int .u8 6), .lit (.int .u8 10), .lit (.int .u8 0), .lit (.int .u8 11), .lit (.int .u8 8), .lit (.int .u8 3), .lit (.int .u8 4), .lit (.int .u8 13), .lit (.int .u8 7), .lit (.int .u8 5), .lit (.int .u8 15), .lit (.int .u8 14), .lit (.int .u8 1), .lit (.int .u8 9)], .agg [.lit (.int .u8 12), .lit (.int .u8 5), .lit (.int .u8 1), .lit (.int .u8 15), .lit (.int .u8 14), .lit (.int .u8 13), .lit (.int .u8 4), .lit (.int .u8 10), .lit (.int .u8 0), .lit (.int .u8 7), .lit (.int .u8 6), .lit (.int .u8 3), .lit (.int .u8 9), .lit (.int .u8 2), .lit (.int .u8 8), .lit (.int .u8 11)], .agg [.lit (.int .u8 13), .lit (.int .u8 11), .lit (.int .u8 7), .lit (.int .u8 14), .lit (.int .u8 12), .lit (.int .u8 1), .lit (.int .u8 3), .lit (.int .u8 9), .lit (.int .u8 5), .lit (.int .u8 0), .lit (.int .u8 15), .lit (.int .u8 4), .lit (.int .u8 8), .lit (.int .u8 6), .lit (.int .u8 2), .lit (.int .u8 10)], .agg [.lit (.int .u8 6), .lit (.int .u8 15), .lit (.int .u8 14), .lit (.int .u8 9), .lit (.int .u8 11), .lit (.int .u8 3), .lit (.int .u8 0), .lit (.int .u8 8), .lit (.int .u8 12), .lit (.int .u8 2), .lit (.int .u8 13), .lit (.int .u8 7), .lit (.int .u8 1), .lit (.int .u8 4), .lit (.int .u8 10), .lit (.int .u8 5)], .agg [.lit (.int .u8 10), .lit (.int .u8 2), .lit (.int .u8 8), .lit (.int .u8 4), .lit (.int .u8 7), .lit (.int .u8 6), .lit (.int .u8 1), .lit (.int .u8 5), .lit (.int .u8 15), .lit (.int .u8 11), .lit (.int .u8 9), .lit (.int .u8 14), .lit (.int .u8 3), .lit (.int .u8 12), .lit (.int .u8 13), .lit (.int .u8 0)]]
def laid_sealskin_cipher_first {H : Type} : DataW H := .agg [.lit (.int .u32 1634760805), .lit (.int .u32 857760878), .lit (.int .u32 2036477234), .lit (.int .u32 1797285236)]
def laid_sealskin_frame_fields {H : Type} : DataW H := .agg [.lit (.int .i64 0), .lit (.int .i64 4), .lit (.int .i64 134), .lit (.int .i64 62), .lit (.int .i64 12), .lit (.int .i64 0), .lit (.int .i64 64), .lit (.int .i64 6), .lit (.int .i64 135), .lit (.int .i64 66), .lit (.int .i64 13)]
def laid_sealskin_frame_most {H : Type} : DataW H := .agg [.lit (.int .i64 7), .lit (.int .i64 1099511627776), .lit (.int .i64 1099511627776), .lit (.int .i64 1099511627776), .lit (.int .i64 1099511627776), .lit (.int .i64 31), .lit (.int .i64 1000)]
/-- One of Go's own tables, pinned by name: the form's constant. -/
def laid_unicode_utf8_first : DataW Unit := Go.Pinned.utf8First

/-- 'sealskinlaw13.FrameTrip': WHATEVER THE INPUT: true; the input reads as it did. -/
def frameTripSpec : ChangeSpec := { name := "frameTrip", fn := fun _ => fun
  | [d1, d2, d3, d4] => { results := [.lit (.bool true)], args := [d1, d2, d3, d4] }
  | _ => none }
def frameTripRow : OpenClaim := { program := "ytonkgiiacholeaadoor", sum := "6909682bf5bc3e873ee44a12a99d3c1b66d1b562fc7a65c631cd2e67489f43b7", func := "sealskin/sealskinlaw13.FrameTrip", spec := "frameTrip", named := ["sealskin/frame.fields", "sealskin/frame.most", "unicode/utf8.first", "unicode/utf8.acceptRanges", "sealskin/hash.first", "sealskin/hash.orders", "sealskin/cipher.first"], apart := false, laid := [("unicode/utf8.acceptRanges", laid_unicode_utf8_acceptRanges), ("sealskin/hash.first", laid_sealskin_hash_first), ("sealskin/hash.orders", laid_sealskin_hash_orders), ("sealskin/cipher.first", laid_sealskin_cipher_first), ("sealskin/frame.fields", laid_sealskin_frame_fields), ("sealskin/frame.most", laid_sealskin_frame_most), ("unicode/utf8.first", laid_unicode_utf8_first)] }
def FrameTripSaid : Prop := frameTripRow.holds Tryd.pinned (OpenSpec.ofChange frameTripSpec)

/-- ITS FALSE NEIGHBOUR: 'it returns false'. Refute it at one input. -/
def frameTripWrong : ChangeSpec := { name := "frameTrip", fn := fun _ => fun
  | [d1, d2, d3, d4] => { results := [.lit (.bool false)], args := [d1, d2, d3, d4] }
  | _ => none }
def FrameTripWrongFalsely : Prop := frameTripRow.holds Tryd.pinned (OpenSpec.ofChange frameTripWrong)

/-- 'sealskinlaw15.AuditRoots': WHATEVER THE INPUT: true; the input reads as it did. -/
def auditRootsSpec : ChangeSpec := { name := "auditRoots", fn := fun _ => fun
  | [d1, d2, d3] => { results := [.lit (.bool true)], args := [d1, d2, d3] }
  | _ => none }
def auditRootsRow : OpenClaim := { program := "ytonkgiiacholeaadoor", sum := "6909682bf5bc3e873ee44a12a99d3c1b66d1b562fc7a65c631cd2e67489f43b7", func := "sealskin/sealskinlaw15.AuditRoots", spec := "auditRoots", recurses := true, named := ["sealskin/hash.first", "sealskin/hash.orders"], apart := false, laid := [("sealskin/hash.first", laid_sealskin_hash_first), ("sealskin/hash.orders", laid_sealskin_hash_orders)] }
def AuditRootsSaid : Prop := auditRootsRow.holds Tryd.pinned (OpenSpec.ofChange auditRootsSpec)

/-- ITS FALSE NEIGHBOUR: 'it returns false'. Refute it at one input. -/
def auditRootsWrong : ChangeSpec := { name := "auditRoots", fn := fun _ => fun
  | [d1, d2, d3] => { results := [.lit (.bool false)], args := [d1, d2, d3] }
  | _ => none }
def AuditRootsWrongFalsely : Prop := auditRootsRow.holds Tryd.pinned (OpenSpec.ofChange auditRootsWrong)

/-- 'sealskinlaw15.AuditEntries': WHATEVER THE INPUT: true; the input reads as it did. -/
def auditEntriesSpec : ChangeSpec := { name := "auditEntries", fn := fun _ => fun
  | [d1, d2] => { results := [.lit (.bool true)], args := [d1, d2] }
  | _ => none }
def auditEntriesRow : OpenClaim := { program := "ytonkgiiacholeaadoor", sum := "6909682bf5bc3e873ee44a12a99d3c1b66d1b562fc7a65c631cd2e67489f43b7", func := "sealskin/sealskinlaw15.AuditEntries", spec := "auditEntries", recurses := true, named := ["sealskin/hash.first", "sealskin/hash.orders"], apart := false, laid := [("sealskin/hash.first", laid_sealskin_hash_first), ("sealskin/hash.orders", laid_sealskin_hash_orders)] }
def AuditEntriesSaid : Prop := auditEntriesRow.holds Tryd.pinned (OpenSpec.ofChange auditEntriesSpec)

/-- ITS FALSE NEIGHBOUR: 'it returns false'. Refute it at one input. -/
def auditEntriesWrong : ChangeSpec := { name := "auditEntries", fn := fun _ => fun
  | [d1, d2] => { results := [.lit (.bool false)], args := [d1, d2] }
  | _ => none }
def AuditEntriesWrongFalsely : Prop := auditEntriesRow.holds Tryd.pinned (OpenSpec.ofChange auditEntriesWrong)

/-- 'sealskinlaw15.AuditProofs': WHATEVER THE INPUT: true; the input reads as it did. -/
def auditProofsSpec : ChangeSpec := { name := "auditProofs", fn := fun _ => fun
  | [d1, d2, d3] => { results := [.lit (.bool true)], args := [d1, d2, d3] }
  | _ => none }
def auditProofsRow : OpenClaim := { program := "ytonkgiiacholeaadoor", sum := "6909682bf5bc3e873ee44a12a99d3c1b66d1b562fc7a65c631cd2e67489f43b7", func := "sealskin/sealskinlaw15.AuditProofs", spec := "auditProofs", recurses := true, named := ["sealskin/hash.first", "sealskin/hash.orders"], apart := false, laid := [("sealskin/hash.first", laid_sealskin_hash_first), ("sealskin/hash.orders", laid_sealskin_hash_orders)] }
def AuditProofsSaid : Prop := auditProofsRow.holds Tryd.pinned (OpenSpec.ofChange auditProofsSpec)

/-- ITS FALSE NEIGHBOUR: 'it returns false'. Refute it at one input. -/
def auditProofsWrong : ChangeSpec := { name := "auditProofs", fn := fun _ => fun
  | [d1, d2, d3] => { results := [.lit (.bool false)], args := [d1, d2, d3] }
  | _ => none }
def AuditProofsWrongFalsely : Prop := auditProofsRow.holds Tryd.pinned (OpenSpec.ofChange auditProofsWrong)

/-- 'sealskinlaw15.AuditProves': WHATEVER THE INPUT: true; the input reads as it did. -/
def auditProvesSpec : ChangeSpec := { name := "auditProves", fn := fun _ => fun
  | [d1, d2, d3, d4, d5] => { results := [.lit (.bool true)], args := [d1, d2, d3, d4, d5] }
  | _ => none }
def auditProvesRow : OpenClaim := { program := "ytonkgiiacholeaadoor", sum := "6909682bf5bc3e873ee44a12a99d3c1b66d1b562fc7a65c631cd2e67489f43b7", func := "sealskin/sealskinlaw15.AuditProves", spec := "auditProves", recurses := true, named := ["sealskin/hash.first", "sealskin/hash.orders"], apart := false, laid := [("sealskin/hash.first", laid_sealskin_hash_first), ("sealskin/hash.orders", laid_sealskin_hash_orders)] }
def AuditProvesSaid : Prop := auditProvesRow.holds Tryd.pinned (OpenSpec.ofChange auditProvesSpec)

/-- ITS FALSE NEIGHBOUR: 'it returns false'. Refute it at one input. -/
def auditProvesWrong : ChangeSpec := { name := "auditProves", fn := fun _ => fun
  | [d1, d2, d3, d4, d5] => { results := [.lit (.bool false)], args := [d1, d2, d3, d4, d5] }
  | _ => none }
def AuditProvesWrongFalsely : Prop := auditProvesRow.holds Tryd.pinned (OpenSpec.ofChange auditProvesWrong)

/-- 'sealskinlaw15.AuditGrown': WHATEVER THE INPUT: true; the input reads as it did. -/
def auditGrownSpec : ChangeSpec := { name := "auditGrown", fn := fun _ => fun
  | [d1, d2, d3] => { results := [.lit (.bool true)], args := [d1, d2, d3] }
  | _ => none }
def auditGrownRow : OpenClaim := { program := "ytonkgiiacholeaadoor", sum := "6909682bf5bc3e873ee44a12a99d3c1b66d1b562fc7a65c631cd2e67489f43b7", func := "sealskin/sealskinlaw15.AuditGrown", spec := "auditGrown", recurses := true, named := ["sealskin/hash.first", "sealskin/hash.orders"], apart := false, laid := [("sealskin/hash.first", laid_sealskin_hash_first), ("sealskin/hash.orders", laid_sealskin_hash_orders)] }
def AuditGrownSaid : Prop := auditGrownRow.holds Tryd.pinned (OpenSpec.ofChange auditGrownSpec)

/-- ITS FALSE NEIGHBOUR: 'it returns false'. Refute it at one input. -/
def auditGrownWrong : ChangeSpec := { name := "auditGrown", fn := fun _ => fun
  | [d1, d2, d3] => { results := [.lit (.bool false)], args := [d1, d2, d3] }
  | _ => none }
def AuditGrownWrongFalsely : Prop := auditGrownRow.holds Tryd.pinned (OpenSpec.ofChange auditGrownWrong)

/-- 'sealskinlaw15.AuditGrows': WHATEVER THE INPUT: true; the input reads as it did. -/
def auditGrowsSpec : ChangeSpec := { name := "auditGrows", fn := fun _ => fun
  | [d1, d2, d3, d4, d5] => { results := [.lit (.bool true)], args := [d1, d2, d3, d4, d5] }
  | _ => none }
def auditGrowsRow : OpenClaim := { program := "ytonkgiiacholeaadoor", sum := "6909682bf5bc3e873ee44a12a99d3c1b66d1b562fc7a65c631cd2e67489f43b7", func := "sealskin/sealskinlaw15.AuditGrows", spec := "auditGrows", recurses := true, named := ["sealskin/hash.first", "sealskin/hash.orders"], apart := false, laid := [("sealskin/hash.first", laid_sealskin_hash_first), ("sealskin/hash.orders", laid_sealskin_hash_orders)] }
def AuditGrowsSaid : Prop := auditGrowsRow.holds Tryd.pinned (OpenSpec.ofChange auditGrowsSpec)

/-- ITS FALSE NEIGHBOUR: 'it returns false'. Refute it at one input. -/
def auditGrowsWrong : ChangeSpec := { name := "auditGrows", fn := fun _ => fun
  | [d1, d2, d3, d4, d5] => { results := [.lit (.bool false)], args := [d1, d2, d3, d4, d5] }
  | _ => none }
def AuditGrowsWrongFalsely : Prop := auditGrowsRow.holds Tryd.pinned (OpenSpec.ofChange auditGrowsWrong)

/-- 'sealskinlaw15.AuditHolds': WHATEVER THE INPUT: true; the input reads as it did. -/
def auditHoldsSpec : ChangeSpec := { name := "auditHolds", fn := fun _ => fun
  | [d1, d2, d3, d4, d5] => { results := [.lit (.bool true)], args := [d1, d2, d3, d4, d5] }
  | _ => none }
def auditHoldsRow : OpenClaim := { program := "ytonkgiiacholeaadoor", sum := "6909682bf5bc3e873ee44a12a99d3c1b66d1b562fc7a65c631cd2e67489f43b7", func := "sealskin/sealskinlaw15.AuditHolds", spec := "auditHolds", recurses := true, named := ["sealskin/hash.first", "sealskin/hash.orders"], apart := false, laid := [("sealskin/hash.first", laid_sealskin_hash_first), ("sealskin/hash.orders", laid_sealskin_hash_orders)] }
def AuditHoldsSaid : Prop := auditHoldsRow.holds Tryd.pinned (OpenSpec.ofChange auditHoldsSpec)

/-- ITS FALSE NEIGHBOUR: 'it returns false'. Refute it at one input. -/
def auditHoldsWrong : ChangeSpec := { name := "auditHolds", fn := fun _ => fun
  | [d1, d2, d3, d4, d5] => { results := [.lit (.bool false)], args := [d1, d2, d3, d4, d5] }
  | _ => none }
def AuditHoldsWrongFalsely : Prop := auditHoldsRow.holds Tryd.pinned (OpenSpec.ofChange auditHoldsWrong)

/-- 'sealskinlaw15.AuditStays': WHATEVER THE INPUT: true; the input reads as it did. -/
def auditStaysSpec : ChangeSpec := { name := "auditStays", fn := fun _ => fun
  | [d1, d2, d3] => { results := [.lit (.bool true)], args := [d1, d2, d3] }
  | _ => none }
def auditStaysRow : OpenClaim := { program := "ytonkgiiacholeaadoor", sum := "6909682bf5bc3e873ee44a12a99d3c1b66d1b562fc7a65c631cd2e67489f43b7", func := "sealskin/sealskinlaw15.AuditStays", spec := "auditStays", recurses := true, named := ["sealskin/hash.first", "sealskin/hash.orders"], apart := false, laid := [("sealskin/hash.first", laid_sealskin_hash_first), ("sealskin/hash.orders", laid_sealskin_hash_orders)] }
def AuditStaysSaid : Prop := auditStaysRow.holds Tryd.pinned (OpenSpec.ofChange auditStaysSpec)

/-- ITS FALSE NEIGHBOUR: 'it returns false'. Refute it at one input. -/
def auditStaysWrong : ChangeSpec := { name := "auditStays", fn := fun _ => fun
  | [d1, d2, d3] => { results := [.lit (.bool false)], args := [d1, d2, d3] }
  | _ => none }
def AuditStaysWrongFalsely : Prop := auditStaysRow.holds Tryd.pinned (OpenSpec.ofChange auditStaysWrong)

/-- 'sealskinlaw15.AuditShort': WHATEVER THE INPUT: true; the input reads as it did. -/
def auditShortSpec : ChangeSpec := { name := "auditShort", fn := fun _ => fun
  | [d1, d2, d3, d4] => { results := [.lit (.bool true)], args := [d1, d2, d3, d4] }
  | _ => none }
def auditShortRow : OpenClaim := { program := "ytonkgiiacholeaadoor", sum := "6909682bf5bc3e873ee44a12a99d3c1b66d1b562fc7a65c631cd2e67489f43b7", func := "sealskin/sealskinlaw15.AuditShort", spec := "auditShort", recurses := true, named := ["sealskin/hash.first", "sealskin/hash.orders"], apart := false, laid := [("sealskin/hash.first", laid_sealskin_hash_first), ("sealskin/hash.orders", laid_sealskin_hash_orders)] }
def AuditShortSaid : Prop := auditShortRow.holds Tryd.pinned (OpenSpec.ofChange auditShortSpec)

/-- ITS FALSE NEIGHBOUR: 'it returns false'. Refute it at one input. -/
def auditShortWrong : ChangeSpec := { name := "auditShort", fn := fun _ => fun
  | [d1, d2, d3, d4] => { results := [.lit (.bool false)], args := [d1, d2, d3, d4] }
  | _ => none }
def AuditShortWrongFalsely : Prop := auditShortRow.holds Tryd.pinned (OpenSpec.ofChange auditShortWrong)

/-- 'sealskinlaw15.AuditNobody': WHATEVER THE INPUT: true; the input reads as it did. -/
def auditNobodySpec : ChangeSpec := { name := "auditNobody", fn := fun _ => fun
  | [d1, d2, d3] => { results := [.lit (.bool true)], args := [d1, d2, d3] }
  | _ => none }
def auditNobodyRow : OpenClaim := { program := "ytonkgiiacholeaadoor", sum := "6909682bf5bc3e873ee44a12a99d3c1b66d1b562fc7a65c631cd2e67489f43b7", func := "sealskin/sealskinlaw15.AuditNobody", spec := "auditNobody", recurses := true, named := ["sealskin/hash.first", "sealskin/hash.orders"], apart := false, laid := [("sealskin/hash.first", laid_sealskin_hash_first), ("sealskin/hash.orders", laid_sealskin_hash_orders)] }
def AuditNobodySaid : Prop := auditNobodyRow.holds Tryd.pinned (OpenSpec.ofChange auditNobodySpec)

/-- ITS FALSE NEIGHBOUR: 'it returns false'. Refute it at one input. -/
def auditNobodyWrong : ChangeSpec := { name := "auditNobody", fn := fun _ => fun
  | [d1, d2, d3] => { results := [.lit (.bool false)], args := [d1, d2, d3] }
  | _ => none }
def AuditNobodyWrongFalsely : Prop := auditNobodyRow.holds Tryd.pinned (OpenSpec.ofChange auditNobodyWrong)

/- THE SECOND FORM. 'bulk': how many values and letters a reading holds, each counted each time it is reached (what is shared counts as often as it is met; a slice's spare places count too). A statement '..UptoSaid' is the law's where the arguments, and the package variables that the reading takes, are together of bulk at most 1048576: NARROWER than '..Said'. Prove '..Said' where nothing that the law and all that it calls make is longer than what came in: it says more and counts as full. Else prove '..UptoSaid'. A law counts once. -/
mutual
def uptoBulk {H : Type} : DataW H → Nat
  | .lit (.string bytes) => bytes.length + 1
  | .lit _ => 1
  | .nil => 1
  | .ptr d => uptoBulk d + 1
  | .slice elems spare => uptoBulkAll elems + uptoBulkAll spare + 1
  | .agg parts => uptoBulkAll parts + 1
  | .iface _ d => uptoBulk d + 1
  | .map entries => uptoBulkEntries entries + 1
  | .held _ => 1
def uptoBulkAll {H : Type} : List (DataW H) → Nat
  | [] => 0
  | d :: r => uptoBulk d + uptoBulkAll r
def uptoBulkEntries {H : Type} : List (Lit × DataW H) → Nat
  | [] => 0
  | x :: r => uptoBulkEntry x + uptoBulkEntries r
def uptoBulkEntry {H : Type} : Lit × DataW H → Nat
  | (.string bytes, d) => bytes.length + uptoBulk d + 1
  | (_, d) => uptoBulk d + 1
 end
def uptoSmall : (H : Type) → List (DataW H) → Bool := fun _ ds => decide (uptoBulkAll ds ≤ 1048576)
def OpenSpec.upto (s : _root_.Go.ChangeSpec) : _root_.Go.OpenSpec := { _root_.Go.OpenSpec.ofChange s with cond := some uptoSmall }

/-- 'sealskinlaw13.FrameTrip', WHERE WHAT IT READS IS OF BULK AT MOST 1048576: true; the input reads as it did. -/
def frameTripUptoRow : OpenClaim := { program := "ytonkgiiacholeaadoor", sum := "6909682bf5bc3e873ee44a12a99d3c1b66d1b562fc7a65c631cd2e67489f43b7", func := "sealskin/sealskinlaw13.FrameTrip", spec := "frameTrip", named := ["sealskin/frame.fields", "sealskin/frame.most", "unicode/utf8.first", "unicode/utf8.acceptRanges", "sealskin/hash.first", "sealskin/hash.orders", "sealskin/cipher.first"], apart := false, laid := [("unicode/utf8.acceptRanges", laid_unicode_utf8_acceptRanges), ("sealskin/hash.first", laid_sealskin_hash_first), ("sealskin/hash.orders", laid_sealskin_hash_orders), ("sealskin/cipher.first", laid_sealskin_cipher_first), ("sealskin/frame.fields", laid_sealskin_frame_fields), ("sealskin/frame.most", laid_sealskin_frame_most), ("unicode/utf8.first", laid_unicode_utf8_first)], narrowed := true }
def FrameTripUptoSaid : Prop := frameTripUptoRow.holds Tryd.pinned (OpenSpec.upto frameTripSpec)

/-- 'sealskinlaw15.AuditRoots', WHERE WHAT IT READS IS OF BULK AT MOST 1048576: true; the input reads as it did. -/
def auditRootsUptoRow : OpenClaim := { program := "ytonkgiiacholeaadoor", sum := "6909682bf5bc3e873ee44a12a99d3c1b66d1b562fc7a65c631cd2e67489f43b7", func := "sealskin/sealskinlaw15.AuditRoots", spec := "auditRoots", recurses := true, named := ["sealskin/hash.first", "sealskin/hash.orders"], apart := false, laid := [("sealskin/hash.first", laid_sealskin_hash_first), ("sealskin/hash.orders", laid_sealskin_hash_orders)], narrowed := true }
def AuditRootsUptoSaid : Prop := auditRootsUptoRow.holds Tryd.pinned (OpenSpec.upto auditRootsSpec)

/-- 'sealskinlaw15.AuditEntries', WHERE WHAT IT READS IS OF BULK AT MOST 1048576: true; the input reads as it did. -/
def auditEntriesUptoRow : OpenClaim := { program := "ytonkgiiacholeaadoor", sum := "6909682bf5bc3e873ee44a12a99d3c1b66d1b562fc7a65c631cd2e67489f43b7", func := "sealskin/sealskinlaw15.AuditEntries", spec := "auditEntries", recurses := true, named := ["sealskin/hash.first", "sealskin/hash.orders"], apart := false, laid := [("sealskin/hash.first", laid_sealskin_hash_first), ("sealskin/hash.orders", laid_sealskin_hash_orders)], narrowed := true }
def AuditEntriesUptoSaid : Prop := auditEntriesUptoRow.holds Tryd.pinned (OpenSpec.upto auditEntriesSpec)

/-- 'sealskinlaw15.AuditProofs', WHERE WHAT IT READS IS OF BULK AT MOST 1048576: true; the input reads as it did. -/
def auditProofsUptoRow : OpenClaim := { program := "ytonkgiiacholeaadoor", sum := "6909682bf5bc3e873ee44a12a99d3c1b66d1b562fc7a65c631cd2e67489f43b7", func := "sealskin/sealskinlaw15.AuditProofs", spec := "auditProofs", recurses := true, named := ["sealskin/hash.first", "sealskin/hash.orders"], apart := false, laid := [("sealskin/hash.first", laid_sealskin_hash_first), ("sealskin/hash.orders", laid_sealskin_hash_orders)], narrowed := true }
def AuditProofsUptoSaid : Prop := auditProofsUptoRow.holds Tryd.pinned (OpenSpec.upto auditProofsSpec)

/-- 'sealskinlaw15.AuditProves', WHERE WHAT IT READS IS OF BULK AT MOST 1048576: true; the input reads as it did. -/
def auditProvesUptoRow : OpenClaim := { program := "ytonkgiiacholeaadoor", sum := "6909682bf5bc3e873ee44a12a99d3c1b66d1b562fc7a65c631cd2e67489f43b7", func := "sealskin/sealskinlaw15.AuditProves", spec := "auditProves", recurses := true, named := ["sealskin/hash.first", "sealskin/hash.orders"], apart := false, laid := [("sealskin/hash.first", laid_sealskin_hash_first), ("sealskin/hash.orders", laid_sealskin_hash_orders)], narrowed := true }
def AuditProvesUptoSaid : Prop := auditProvesUptoRow.holds Tryd.pinned (OpenSpec.upto auditProvesSpec)

/-- 'sealskinlaw15.AuditGrown', WHERE WHAT IT READS IS OF BULK AT MOST 1048576: true; the input reads as it did. -/
def auditGrownUptoRow : OpenClaim := { program := "ytonkgiiacholeaadoor", sum := "6909682bf5bc3e873ee44a12a99d3c1b66d1b562fc7a65c631cd2e67489f43b7", func := "sealskin/sealskinlaw15.AuditGrown", spec := "auditGrown", recurses := true, named := ["sealskin/hash.first", "sealskin/hash.orders"], apart := false, laid := [("sealskin/hash.first", laid_sealskin_hash_first), ("sealskin/hash.orders", laid_sealskin_hash_orders)], narrowed := true }
def AuditGrownUptoSaid : Prop := auditGrownUptoRow.holds Tryd.pinned (OpenSpec.upto auditGrownSpec)

/-- 'sealskinlaw15.AuditGrows', WHERE WHAT IT READS IS OF BULK AT MOST 1048576: true; the input reads as it did. -/
def auditGrowsUptoRow : OpenClaim := { program := "ytonkgiiacholeaadoor", sum := "6909682bf5bc3e873ee44a12a99d3c1b66d1b562fc7a65c631cd2e67489f43b7", func := "sealskin/sealskinlaw15.AuditGrows", spec := "auditGrows", recurses := true, named := ["sealskin/hash.first", "sealskin/hash.orders"], apart := false, laid := [("sealskin/hash.first", laid_sealskin_hash_first), ("sealskin/hash.orders", laid_sealskin_hash_orders)], narrowed := true }
def AuditGrowsUptoSaid : Prop := auditGrowsUptoRow.holds Tryd.pinned (OpenSpec.upto auditGrowsSpec)

/-- 'sealskinlaw15.AuditHolds', WHERE WHAT IT READS IS OF BULK AT MOST 1048576: true; the input reads as it did. -/
def auditHoldsUptoRow : OpenClaim := { program := "ytonkgiiacholeaadoor", sum := "6909682bf5bc3e873ee44a12a99d3c1b66d1b562fc7a65c631cd2e67489f43b7", func := "sealskin/sealskinlaw15.AuditHolds", spec := "auditHolds", recurses := true, named := ["sealskin/hash.first", "sealskin/hash.orders"], apart := false, laid := [("sealskin/hash.first", laid_sealskin_hash_first), ("sealskin/hash.orders", laid_sealskin_hash_orders)], narrowed := true }
def AuditHoldsUptoSaid : Prop := auditHoldsUptoRow.holds Tryd.pinned (OpenSpec.upto auditHoldsSpec)

/-- 'sealskinlaw15.AuditStays', WHERE WHAT IT READS IS OF BULK AT MOST 1048576: true; the input reads as it did. -/
def auditStaysUptoRow : OpenClaim := { program := "ytonkgiiacholeaadoor", sum := "6909682bf5bc3e873ee44a12a99d3c1b66d1b562fc7a65c631cd2e67489f43b7", func := "sealskin/sealskinlaw15.AuditStays", spec := "auditStays", recurses := true, named := ["sealskin/hash.first", "sealskin/hash.orders"], apart := false, laid := [("sealskin/hash.first", laid_sealskin_hash_first), ("sealskin/hash.orders", laid_sealskin_hash_orders)], narrowed := true }
def AuditStaysUptoSaid : Prop := auditStaysUptoRow.holds Tryd.pinned (OpenSpec.upto auditStaysSpec)

/-- 'sealskinlaw15.AuditShort', WHERE WHAT IT READS IS OF BULK AT MOST 1048576: true; the input reads as it did. -/
def auditShortUptoRow : OpenClaim := { program := "ytonkgiiacholeaadoor", sum := "6909682bf5bc3e873ee44a12a99d3c1b66d1b562fc7a65c631cd2e67489f43b7", func := "sealskin/sealskinlaw15.AuditShort", spec := "auditShort", recurses := true, named := ["sealskin/hash.first", "sealskin/hash.orders"], apart := false, laid := [("sealskin/hash.first", laid_sealskin_hash_first), ("sealskin/hash.orders", laid_sealskin_hash_orders)], narrowed := true }
def AuditShortUptoSaid : Prop := auditShortUptoRow.holds Tryd.pinned (OpenSpec.upto auditShortSpec)

/-- 'sealskinlaw15.AuditNobody', WHERE WHAT IT READS IS OF BULK AT MOST 1048576: true; the input reads as it did. -/
def auditNobodyUptoRow : OpenClaim := { program := "ytonkgiiacholeaadoor", sum := "6909682bf5bc3e873ee44a12a99d3c1b66d1b562fc7a65c631cd2e67489f43b7", func := "sealskin/sealskinlaw15.AuditNobody", spec := "auditNobody", recurses := true, named := ["sealskin/hash.first", "sealskin/hash.orders"], apart := false, laid := [("sealskin/hash.first", laid_sealskin_hash_first), ("sealskin/hash.orders", laid_sealskin_hash_orders)], narrowed := true }
def AuditNobodyUptoSaid : Prop := auditNobodyUptoRow.holds Tryd.pinned (OpenSpec.upto auditNobodySpec)

end Rows
end Go.Proofs.YtonkgiiacholeaaDoor
