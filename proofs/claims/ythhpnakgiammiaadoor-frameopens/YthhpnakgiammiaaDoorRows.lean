/-
  NARROWER THAN 'FOR EVERY INPUT', by the rows' own cells (each row's printed sentence says how): CipherTurns: laid · CipherSeals: laid · CipherOpens: laid · FrameKeys: laid · FrameWraps: laid · FrameOpens: laid.
  DERIVED. THE GIVEN ROWS OF THIS SEAT. 6 by the template 'for every input the law returns true; each argument reads behind the call as it read before'; 0 by the template 'total and deterministic' (their statements: YthhpnakgiammiaaDoorTotals.lean).
  GIVEN WITH THE SEED: the statements are not yours to turn. If you find one false, say at which input.
  Laid BY PROGRAM, IN A SANDBOX (cutbox-rows.mjs): the forced cells as the released guide's own fill.sh prints them over the translation 34869e3f2b039d90… (all of the seat's roots in one cut). By AI agents, Wed Nov 11 2026. No macro, syntax, notation, axiom, sorry.
-/
import Derived.Test.YthhpnakgiammiaaDoorChecked
import GoSem.PinnedTables
import GoSem.Claim
import GoSem.ClaimJoined
import GoSem.ClaimMapViews
import Derived.JoinedTies
import Derived.KernelRfl
namespace Go.Proofs.YthhpnakgiammiaaDoor
/- THE CELL 'sum', in the pinned program and in every row, IS THE sha256 OF THE DUMP (.gsa) THAT YthhpnakgiammiaaDoorProg.lean LOADS. Nothing in Lean hashes anything: it is a label: what it is worth is what the hold of that sum in a sandbox is worth. -/
noncomputable def Tryd.pinned : Pinned := { name := "ythhpnakgiammiaadoor", sum := "34869e3f2b039d90568002a80ddc6edbe562cd1eb3a009ef32e5098122fb1e8b", checked := Tryd.checked }
namespace Rows
def none {H : Type} : Left H := { results := [], args := [] }

/- WHAT THE LISTED PACKAGE-LEVEL VARIABLES READ AS WHEN THE CALL BEGINS. Each datum BY PROGRAM (the guide's laid-datum.mjs) off the statement by which the dump's own 'gosem.cut.vars' lays the variable. In a bare row this is a premise. The card (YthhpnakgiammiaaDoorCards.lean) ties it to the program's text. -/
def laid_sealskin_hash_first {H : Type} : DataW H := .agg [.lit (.int .u32 1779033703), .lit (.int .u32 3144134277), .lit (.int .u32 1013904242), .lit (.int .u32 2773480762), .lit (.int .u32 1359893119), .lit (.int .u32 2600822924), .lit (.int .u32 528734635), .lit (.int .u32 1541459225)]
def laid_sealskin_hash_orders {H : Type} : DataW H := .agg [.agg [.lit (.int .u8 0), .lit (.int .u8 1), .lit (.int .u8 2), .lit (.int .u8 3), .lit (.int .u8 4), .lit (.int .u8 5), .lit (.int .u8 6), .lit (.int .u8 7), .lit (.int .u8 8), .lit (.int .u8 9), .lit (.int .u8 10), .lit (.int .u8 11), .lit (.int .u8 12), .lit (.int .u8 13), .lit (.int .u8 14), .lit (.int .u8 15)], .agg [.lit (.int .u8 14), .lit (.int .u8 10), .lit (.int .u8 4), .lit (.int .u8 8), .lit (.int .u8 9), .lit (.int .u8 15), .lit (.int .u8 13), .lit (.int .u8 6), .lit (.int .u8 1), .lit (.int .u8 12), .lit (.int .u8 0), .lit (.int .u8 2), .lit (.int .u8 11), .lit (.int .u8 7), .lit (.int .u8 5), .lit (.int .u8 3)], .agg [.lit (.int .u8 11), .lit (.int .u8 8), .lit (.int .u8 12), .lit (.int .u8 0), .lit (.int .u8 5), .lit (.int .u8 2), .lit (.int .u8 15), .lit (.int .u8 13), .lit (.int .u8 10), .lit (.int .u8 14), .lit (.int .u8 3), .lit (.int .u8 6), .lit (.int .u8 7), .lit (.int .u8 1), .lit (.int .u8 9), .lit (.int .u8 4)], .agg [.lit (.int .u8 7), .lit (.int .u8 9), .lit (.int .u8 3), .lit (.int .u8 1), .lit (.int .u8 13), .lit (.int .u8 12), .lit (.int .u8 11), .lit (.int .u8 14), .lit (.int .u8 2), .lit (.int .u8 6), .lit (.int .u8 5), .lit (.int .u8 10), .lit (.int .u8 4), .lit (.int .u8 0), .lit (.int .u8 15), .lit (.int .u8 8)], .agg [.lit (.int .u8 9), .lit (.int .u8 0), .lit (.int .u8 5), .lit (.int .u8 7), .lit (.int .u8 2), .lit (.int .u8 4), .lit (.int .u8 10), .lit (.int .u8 15), .lit (.int .u8 14), .lit (.int .u8 1), .lit (.int .u8 11), .lit (.int .u8 12), .lit (.int .u8 6), .lit (.int .u8 8), .lit (.int .u8 3), .lit (.int .u8 13)], .agg [.lit (.int .u8 2), .lit (.int .u8 12), .lit (.int .u8 6), .lit (.int .u8 10), .lit (.int .u8 0), .lit (.int .u8 11), .lit (.int .u8 8), .lit (.int .u8 3), .lit (.int .u8 4), .lit (.int .u8 13), .lit (.int .u8 7), .lit (.int .u8 5), .lit (.int .u8 15), .lit (.int .u8 14), .lit (.int .u8 1), .lit (.int .u8 9)], .agg [.lit (.int .u8 12), .lit (.int .u8 5), .lit (.int .u8 1), .lit (.int .u8 15), .lit (.int .u8 14), .lit (.int .u8 13), .lit (.int .u8 4), .lit (.int .u8 10), .lit (.int .u8 0), .lit (.int .u8 7), .lit (.int .u8 6), .lit (.int .u8 3), .lit (.int .u8 9), .lit (.int .u8 2), .lit (.int .u8 8), .lit (.int .u8 11)], .agg [.lit (.int .u8 13), .lit (.int .u8 11), .lit (.int .u8 7), .lit (.int .u8 14), .lit (.int .u8 12), .lit (.int .u8 1), .lit (.int .u8 3), .lit (.int .u8 9), .lit (.int .u8 5), .lit (.int .u8 0), .lit (.int .u8 15), .lit (.int .u8 4), .lit (.int .u8 8), .lit (.int .u8 6), .lit (.int .u8 2), .lit (.int .u8 10)], .agg [.lit (.int .u8 6), .lit (.int .u8 15), .lit (.int .u8 14), .lit (.int .u8 9), .lit (.int .u8 11), .lit (.int .u8 3), .lit (.int .u8 0), .lit (.int .u8 8), .lit (.int .u8 12), .lit (.int .u8 2), .lit (.int .u8 13), .lit (.int .u8 7), .lit (.int .u8 1), .lit (.int .u8 4), .lit (.int .u8 10), .lit (.int .u8 5)], .agg [.lit (.int .u8 10), .lit (.int .u8 2), .lit (.int .u8 8), .lit (.int .u8 4), .lit (.int .u8 7), .lit (.int .u8 6), .lit (.int .u8 1), .lit (.int .u8 5), .lit (.int .u8 15), .lit (.int .u8 11), .lit (.int .u8 9), .lit (.int .u8 14), .lit (.int .u8 3), .lit (.int .u8 12), .lit (.int .u8 13), .lit (.int .u8 0)]]
def laid_sealskin_cipher_first {H : Type} : DataW H := .agg [.lit (.int .u32 1634760805), .lit (.int .u32 857760878), .lit (.int .u32 2036477234), .lit (.int .u32 1797285236)]
def laid_unicode_utf8_acceptRanges {H : Type} : DataW H := .agg [.agg [.lit (.int .u8 128), .lit (.int .u8 191)], .agg [.lit (.int .u8 160), .lit (.int .u8 191)], .agg [.lit (.int .u8 128), .lit (.int .u8 159)], .agg [.lit (.int .u8 144), .lit (.int .u8 191)], .agg [.lit (.int .u8 128), .lit (.int .u8 143)], .agg [.lit (.int .u8 0), .lit (.int .u8 0)], .agg [.lit (.int .u8 0), .lit (.int .u8 0)], .agg [.lit (.int .u8 0), .lit (.int .u8 0)], .agg [.lit (.int .u8 0), .lit (.int .u8 0)], .agg [.lit (.int .u8 0), .lit (.int .u8 0)], .agg [.lit (.int .u8 0), .lit (.int .u8 0)], .agg [.lit (.int .u8 0), .lit (.int .u8 0)], .agg [.lit (.int .u8 0), .lit (.int .u8 0)], .agg [.lit (.int .u8 0), .lit (.int .u8 0)], .agg [.lit (.int .u8 0), .lit (.int .u8 0)], .agg [.lit (.int .u8 0), .lit (.int .u8 0)]]
def laid_sealskin_frame_fields {H : Type} : DataW H := .agg [.lit (.int .i64 0), .lit (.int .i64 4), .lit (.int .i64 134), .lit (.int .i64 62), .lit (.int .i64 12), .lit (.int .i64 0), .lit (.int .i64 64), .lit (.int .i64 6), .lit (.int .i64 135), .lit (.int .i64 66), .lit (.int .i64 13)]
def laid_sealskin_frame_most {H : Type} : DataW H := .agg [.lit (.int .i64 7), .lit (.int .i64 1099511627776), .lit (.int .i64 1099511627776), .lit (.int .i64 1099511627776), .lit (.int .i64 1099511627776), .lit (.int .i64 31), .lit (.int .i64 1000)]
/-- One of Go's own tables, pinned by name: the form's constant. -/
def laid_unicode_utf8_first : DataW Unit := Go.Pinned.utf8First

/-- 'sealskinlaw08.CipherTurns': WHATEVER THE INPUT: true; the input reads as it did. -/
def cipherTurnsSpec : ChangeSpec := { name := "cipherTurns", fn := fun _ => fun
  | [d1, d2, d3] => { results := [.lit (.bool true)], args := [d1, d2, d3] }
  | _ => none }
def cipherTurnsRow : OpenClaim := { program := "ythhpnakgiammiaadoor", sum := "34869e3f2b039d90568002a80ddc6edbe562cd1eb3a009ef32e5098122fb1e8b", func := "sealskin/sealskinlaw08.CipherTurns", spec := "cipherTurns", unfollowed := true, recurses := true, named := ["sealskin/cipher.first", "sealskin/hash.first", "sealskin/hash.orders"], apart := false, laid := [("sealskin/hash.first", laid_sealskin_hash_first), ("sealskin/hash.orders", laid_sealskin_hash_orders), ("sealskin/cipher.first", laid_sealskin_cipher_first)] }
def CipherTurnsSaid : Prop := cipherTurnsRow.holds Tryd.pinned (OpenSpec.ofChange cipherTurnsSpec)

/-- ITS FALSE NEIGHBOUR: 'it returns false'. Refute it at one input. -/
def cipherTurnsWrong : ChangeSpec := { name := "cipherTurns", fn := fun _ => fun
  | [d1, d2, d3] => { results := [.lit (.bool false)], args := [d1, d2, d3] }
  | _ => none }
def CipherTurnsWrongFalsely : Prop := cipherTurnsRow.holds Tryd.pinned (OpenSpec.ofChange cipherTurnsWrong)

/-- 'sealskinlaw08.CipherSeals': WHATEVER THE INPUT: true; the input reads as it did. -/
def cipherSealsSpec : ChangeSpec := { name := "cipherSeals", fn := fun _ => fun
  | [d1, d2, d3, d4] => { results := [.lit (.bool true)], args := [d1, d2, d3, d4] }
  | _ => none }
def cipherSealsRow : OpenClaim := { program := "ythhpnakgiammiaadoor", sum := "34869e3f2b039d90568002a80ddc6edbe562cd1eb3a009ef32e5098122fb1e8b", func := "sealskin/sealskinlaw08.CipherSeals", spec := "cipherSeals", unfollowed := true, recurses := true, named := ["sealskin/cipher.first", "sealskin/hash.first", "sealskin/hash.orders"], apart := false, laid := [("sealskin/hash.first", laid_sealskin_hash_first), ("sealskin/hash.orders", laid_sealskin_hash_orders), ("sealskin/cipher.first", laid_sealskin_cipher_first)] }
def CipherSealsSaid : Prop := cipherSealsRow.holds Tryd.pinned (OpenSpec.ofChange cipherSealsSpec)

/-- ITS FALSE NEIGHBOUR: 'it returns false'. Refute it at one input. -/
def cipherSealsWrong : ChangeSpec := { name := "cipherSeals", fn := fun _ => fun
  | [d1, d2, d3, d4] => { results := [.lit (.bool false)], args := [d1, d2, d3, d4] }
  | _ => none }
def CipherSealsWrongFalsely : Prop := cipherSealsRow.holds Tryd.pinned (OpenSpec.ofChange cipherSealsWrong)

/-- 'sealskinlaw08.CipherOpens': WHATEVER THE INPUT: true; the input reads as it did. -/
def cipherOpensSpec : ChangeSpec := { name := "cipherOpens", fn := fun _ => fun
  | [d1, d2, d3, d4] => { results := [.lit (.bool true)], args := [d1, d2, d3, d4] }
  | _ => none }
def cipherOpensRow : OpenClaim := { program := "ythhpnakgiammiaadoor", sum := "34869e3f2b039d90568002a80ddc6edbe562cd1eb3a009ef32e5098122fb1e8b", func := "sealskin/sealskinlaw08.CipherOpens", spec := "cipherOpens", unfollowed := true, recurses := true, named := ["sealskin/cipher.first", "sealskin/hash.first", "sealskin/hash.orders"], apart := false, laid := [("sealskin/hash.first", laid_sealskin_hash_first), ("sealskin/hash.orders", laid_sealskin_hash_orders), ("sealskin/cipher.first", laid_sealskin_cipher_first)] }
def CipherOpensSaid : Prop := cipherOpensRow.holds Tryd.pinned (OpenSpec.ofChange cipherOpensSpec)

/-- ITS FALSE NEIGHBOUR: 'it returns false'. Refute it at one input. -/
def cipherOpensWrong : ChangeSpec := { name := "cipherOpens", fn := fun _ => fun
  | [d1, d2, d3, d4] => { results := [.lit (.bool false)], args := [d1, d2, d3, d4] }
  | _ => none }
def CipherOpensWrongFalsely : Prop := cipherOpensRow.holds Tryd.pinned (OpenSpec.ofChange cipherOpensWrong)

/-- 'sealskinlaw13.FrameKeys': WHATEVER THE INPUT: true; the input reads as it did. -/
def frameKeysSpec : ChangeSpec := { name := "frameKeys", fn := fun _ => fun
  | [d1, d2, d3] => { results := [.lit (.bool true)], args := [d1, d2, d3] }
  | _ => none }
def frameKeysRow : OpenClaim := { program := "ythhpnakgiammiaadoor", sum := "34869e3f2b039d90568002a80ddc6edbe562cd1eb3a009ef32e5098122fb1e8b", func := "sealskin/sealskinlaw13.FrameKeys", spec := "frameKeys", named := ["sealskin/hash.first", "sealskin/hash.orders", "sealskin/frame.fields", "sealskin/frame.most", "unicode/utf8.first", "unicode/utf8.acceptRanges", "sealskin/cipher.first"], apart := false, laid := [("unicode/utf8.acceptRanges", laid_unicode_utf8_acceptRanges), ("sealskin/hash.first", laid_sealskin_hash_first), ("sealskin/hash.orders", laid_sealskin_hash_orders), ("sealskin/cipher.first", laid_sealskin_cipher_first), ("sealskin/frame.fields", laid_sealskin_frame_fields), ("sealskin/frame.most", laid_sealskin_frame_most), ("unicode/utf8.first", laid_unicode_utf8_first)] }
def FrameKeysSaid : Prop := frameKeysRow.holds Tryd.pinned (OpenSpec.ofChange frameKeysSpec)

/-- ITS FALSE NEIGHBOUR: 'it returns false'. Refute it at one input. -/
def frameKeysWrong : ChangeSpec := { name := "frameKeys", fn := fun _ => fun
  | [d1, d2, d3] => { results := [.lit (.bool false)], args := [d1, d2, d3] }
  | _ => none }
def FrameKeysWrongFalsely : Prop := frameKeysRow.holds Tryd.pinned (OpenSpec.ofChange frameKeysWrong)

/-- 'sealskinlaw13.FrameWraps': WHATEVER THE INPUT: true; the input reads as it did. -/
def frameWrapsSpec : ChangeSpec := { name := "frameWraps", fn := fun _ => fun
  | [d1, d2, d3] => { results := [.lit (.bool true)], args := [d1, d2, d3] }
  | _ => none }
def frameWrapsRow : OpenClaim := { program := "ythhpnakgiammiaadoor", sum := "34869e3f2b039d90568002a80ddc6edbe562cd1eb3a009ef32e5098122fb1e8b", func := "sealskin/sealskinlaw13.FrameWraps", spec := "frameWraps", named := ["sealskin/frame.fields", "sealskin/frame.most", "unicode/utf8.first", "unicode/utf8.acceptRanges", "sealskin/hash.first", "sealskin/hash.orders", "sealskin/cipher.first"], apart := false, laid := [("unicode/utf8.acceptRanges", laid_unicode_utf8_acceptRanges), ("sealskin/hash.first", laid_sealskin_hash_first), ("sealskin/hash.orders", laid_sealskin_hash_orders), ("sealskin/cipher.first", laid_sealskin_cipher_first), ("sealskin/frame.fields", laid_sealskin_frame_fields), ("sealskin/frame.most", laid_sealskin_frame_most), ("unicode/utf8.first", laid_unicode_utf8_first)] }
def FrameWrapsSaid : Prop := frameWrapsRow.holds Tryd.pinned (OpenSpec.ofChange frameWrapsSpec)

/-- ITS FALSE NEIGHBOUR: 'it returns false'. Refute it at one input. -/
def frameWrapsWrong : ChangeSpec := { name := "frameWraps", fn := fun _ => fun
  | [d1, d2, d3] => { results := [.lit (.bool false)], args := [d1, d2, d3] }
  | _ => none }
def FrameWrapsWrongFalsely : Prop := frameWrapsRow.holds Tryd.pinned (OpenSpec.ofChange frameWrapsWrong)

/-- 'sealskinlaw13.FrameOpens': WHATEVER THE INPUT: true; the input reads as it did. -/
def frameOpensSpec : ChangeSpec := { name := "frameOpens", fn := fun _ => fun
  | [d1, d2, d3] => { results := [.lit (.bool true)], args := [d1, d2, d3] }
  | _ => none }
def frameOpensRow : OpenClaim := { program := "ythhpnakgiammiaadoor", sum := "34869e3f2b039d90568002a80ddc6edbe562cd1eb3a009ef32e5098122fb1e8b", func := "sealskin/sealskinlaw13.FrameOpens", spec := "frameOpens", named := ["sealskin/frame.fields", "sealskin/frame.most", "unicode/utf8.first", "unicode/utf8.acceptRanges", "sealskin/hash.first", "sealskin/hash.orders", "sealskin/cipher.first"], apart := false, laid := [("unicode/utf8.acceptRanges", laid_unicode_utf8_acceptRanges), ("sealskin/hash.first", laid_sealskin_hash_first), ("sealskin/hash.orders", laid_sealskin_hash_orders), ("sealskin/cipher.first", laid_sealskin_cipher_first), ("sealskin/frame.fields", laid_sealskin_frame_fields), ("sealskin/frame.most", laid_sealskin_frame_most), ("unicode/utf8.first", laid_unicode_utf8_first)] }
def FrameOpensSaid : Prop := frameOpensRow.holds Tryd.pinned (OpenSpec.ofChange frameOpensSpec)

/-- ITS FALSE NEIGHBOUR: 'it returns false'. Refute it at one input. -/
def frameOpensWrong : ChangeSpec := { name := "frameOpens", fn := fun _ => fun
  | [d1, d2, d3] => { results := [.lit (.bool false)], args := [d1, d2, d3] }
  | _ => none }
def FrameOpensWrongFalsely : Prop := frameOpensRow.holds Tryd.pinned (OpenSpec.ofChange frameOpensWrong)

/- THE SECOND FORM. 'bulk': how many values and letters a reading holds, each counted each time it is reached (what is shared counts as often as it is met; a slice's spare places count too). A statement '..UptoSaid' is the law's where the arguments, and the package variables that the reading takes, are together of bulk at most 1048576: NARROWER than '..Said'. Prove '..Said' where nothing that the law and all that it calls make is longer than what came in: it says more and counts as full. Else prove '..UptoSaid'. A law counts once. -/
mutual
def uptoBulk {H : Type} : DataW H → Nat
  | .lit (.string bytes) => bytes.length + 1
  | .lit _ => 1
  | .nil => 1
  | .ptr d => uptoBulk d + 1
  | .slice elems spare => uptoBulkAll elems + uptoBulkAll spare + 1
  | .agg parts => uptoBulkAll parts + 1
  | .iface _ d => uptoBulk d + 1
  | .map entries => uptoBulkEntries entries + 1
  | .held _ => 1
def uptoBulkAll {H : Type} : List (DataW H) → Nat
  | [] => 0
  | d :: r => uptoBulk d + uptoBulkAll r
def uptoBulkEntries {H : Type} : List (Lit × DataW H) → Nat
  | [] => 0
  | x :: r => uptoBulkEntry x + uptoBulkEntries r
def uptoBulkEntry {H : Type} : Lit × DataW H → Nat
  | (.string bytes, d) => bytes.length + uptoBulk d + 1
  | (_, d) => uptoBulk d + 1
 end
def uptoSmall : (H : Type) → List (DataW H) → Bool := fun _ ds => decide (uptoBulkAll ds ≤ 1048576)
def OpenSpec.upto (s : _root_.Go.ChangeSpec) : _root_.Go.OpenSpec := { _root_.Go.OpenSpec.ofChange s with cond := some uptoSmall }

/-- 'sealskinlaw08.CipherTurns', WHERE WHAT IT READS IS OF BULK AT MOST 1048576: true; the input reads as it did. -/
def cipherTurnsUptoRow : OpenClaim := { program := "ythhpnakgiammiaadoor", sum := "34869e3f2b039d90568002a80ddc6edbe562cd1eb3a009ef32e5098122fb1e8b", func := "sealskin/sealskinlaw08.CipherTurns", spec := "cipherTurns", unfollowed := true, recurses := true, named := ["sealskin/cipher.first", "sealskin/hash.first", "sealskin/hash.orders"], apart := false, laid := [("sealskin/hash.first", laid_sealskin_hash_first), ("sealskin/hash.orders", laid_sealskin_hash_orders), ("sealskin/cipher.first", laid_sealskin_cipher_first)], narrowed := true }
def CipherTurnsUptoSaid : Prop := cipherTurnsUptoRow.holds Tryd.pinned (OpenSpec.upto cipherTurnsSpec)

/-- 'sealskinlaw08.CipherSeals', WHERE WHAT IT READS IS OF BULK AT MOST 1048576: true; the input reads as it did. -/
def cipherSealsUptoRow : OpenClaim := { program := "ythhpnakgiammiaadoor", sum := "34869e3f2b039d90568002a80ddc6edbe562cd1eb3a009ef32e5098122fb1e8b", func := "sealskin/sealskinlaw08.CipherSeals", spec := "cipherSeals", unfollowed := true, recurses := true, named := ["sealskin/cipher.first", "sealskin/hash.first", "sealskin/hash.orders"], apart := false, laid := [("sealskin/hash.first", laid_sealskin_hash_first), ("sealskin/hash.orders", laid_sealskin_hash_orders), ("sealskin/cipher.first", laid_sealskin_cipher_first)], narrowed := true }
def CipherSealsUptoSaid : Prop := cipherSealsUptoRow.holds Tryd.pinned (OpenSpec.upto cipherSealsSpec)

/-- 'sealskinlaw08.CipherOpens', WHERE WHAT IT READS IS OF BULK AT MOST 1048576: true; the input reads as it did. -/
def cipherOpensUptoRow : OpenClaim := { program := "ythhpnakgiammiaadoor", sum := "34869e3f2b039d90568002a80ddc6edbe562cd1eb3a009ef32e5098122fb1e8b", func := "sealskin/sealskinlaw08.CipherOpens", spec := "cipherOpens", unfollowed := true, recurses := true, named := ["sealskin/cipher.first", "sealskin/hash.first", "sealskin/hash.orders"], apart := false, laid := [("sealskin/hash.first", laid_sealskin_hash_first), ("sealskin/hash.orders", laid_sealskin_hash_orders), ("sealskin/cipher.first", laid_sealskin_cipher_first)], narrowed := true }
def CipherOpensUptoSaid : Prop := cipherOpensUptoRow.holds Tryd.pinned (OpenSpec.upto cipherOpensSpec)

/-- 'sealskinlaw13.FrameKeys', WHERE WHAT IT READS IS OF BULK AT MOST 1048576: true; the input reads as it did. -/
def frameKeysUptoRow : OpenClaim := { program := "ythhpnakgiammiaadoor", sum := "34869e3f2b039d90568002a80ddc6edbe562cd1eb3a009ef32e5098122fb1e8b", func := "sealskin/sealskinlaw13.FrameKeys", spec := "frameKeys", named := ["sealskin/hash.first", "sealskin/hash.orders", "sealskin/frame.fields", "sealskin/frame.most", "unicode/utf8.first", "unicode/utf8.acceptRanges", "sealskin/cipher.first"], apart := false, laid := [("unicode/utf8.acceptRanges", laid_unicode_utf8_acceptRanges), ("sealskin/hash.first", laid_sealskin_hash_first), ("sealskin/hash.orders", laid_sealskin_hash_orders), ("sealskin/cipher.first", laid_sealskin_cipher_first), ("sealskin/frame.fields", laid_sealskin_frame_fields), ("sealskin/frame.most", laid_sealskin_frame_most), ("unicode/utf8.first", laid_unicode_utf8_first)], narrowed := true }
def FrameKeysUptoSaid : Prop := frameKeysUptoRow.holds Tryd.pinned (OpenSpec.upto frameKeysSpec)

/-- 'sealskinlaw13.FrameWraps', WHERE WHAT IT READS IS OF BULK AT MOST 1048576: true; the input reads as it did. -/
def frameWrapsUptoRow : OpenClaim := { program := "ythhpnakgiammiaadoor", sum := "34869e3f2b039d90568002a80ddc6edbe562cd1eb3a009ef32e5098122fb1e8b", func := "sealskin/sealskinlaw13.FrameWraps", spec := "frameWraps", named := ["sealskin/frame.fields", "sealskin/frame.most", "unicode/utf8.first", "unicode/utf8.acceptRanges", "sealskin/hash.first", "sealskin/hash.orders", "sealskin/cipher.first"], apart := false, laid := [("unicode/utf8.acceptRanges", laid_unicode_utf8_acceptRanges), ("sealskin/hash.first", laid_sealskin_hash_first), ("sealskin/hash.orders", laid_sealskin_hash_orders), ("sealskin/cipher.first", laid_sealskin_cipher_first), ("sealskin/frame.fields", laid_sealskin_frame_fields), ("sealskin/frame.most", laid_sealskin_frame_most), ("unicode/utf8.first", laid_unicode_utf8_first)], narrowed := true }
def FrameWrapsUptoSaid : Prop := frameWrapsUptoRow.holds Tryd.pinned (OpenSpec.upto frameWrapsSpec)

/-- 'sealskinlaw13.FrameOpens', WHERE WHAT IT READS IS OF BULK AT MOST 1048576: true; the input reads as it did. -/
def frameOpensUptoRow : OpenClaim := { program := "ythhpnakgiammiaadoor", sum := "34869e3f2b039d90568002a80ddc6edbe562cd1eb3a009ef32e5098122fb1e8b", func := "sealskin/sealskinlaw13.FrameOpens", spec := "frameOpens", named := ["sealskin/frame.fields", "sealskin/frame.most", "unicode/utf8.first", "unicode/utf8.acceptRanges", "sealskin/hash.first", "sealskin/hash.orders", "sealskin/cipher.first"], apart := false, laid := [("unicode/utf8.acceptRanges", laid_unicode_utf8_acceptRanges), ("sealskin/hash.first", laid_sealskin_hash_first), ("sealskin/hash.orders", laid_sealskin_hash_orders), ("sealskin/cipher.first", laid_sealskin_cipher_first), ("sealskin/frame.fields", laid_sealskin_frame_fields), ("sealskin/frame.most", laid_sealskin_frame_most), ("unicode/utf8.first", laid_unicode_utf8_first)], narrowed := true }
def FrameOpensUptoSaid : Prop := frameOpensUptoRow.holds Tryd.pinned (OpenSpec.upto frameOpensSpec)

end Rows
end Go.Proofs.YthhpnakgiammiaaDoor
