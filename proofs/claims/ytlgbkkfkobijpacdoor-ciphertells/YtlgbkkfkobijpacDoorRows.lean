/-
  NARROWER THAN 'FOR EVERY INPUT', by the rows' own cells (each row's printed sentence says how): CipherBack: laid · CipherForm: laid · CipherFronts: laid · CipherTells: laid.
  DERIVED. THE GIVEN ROWS OF THIS SEAT. 4 by the template 'for every input the law returns true; each argument reads behind the call as it read before'; 0 by the template 'total and deterministic' (their statements: YtlgbkkfkobijpacDoorTotals.lean).
  GIVEN WITH THE SEED: the statements are not yours to turn. If you find one false, say at which input.
  Laid BY PROGRAM, IN A SANDBOX (cutbox-rows.mjs): the forced cells as the released guide's own fill.sh prints them over the translation 76d4818d1b335d12… (all of the seat's roots in one cut). By AI agents, Wed Nov 11 2026. No macro, syntax, notation, axiom, sorry.
-/
import Derived.Test.YtlgbkkfkobijpacDoorChecked
import GoSem.Claim
import GoSem.ClaimJoined
import GoSem.ClaimMapViews
import Derived.JoinedTies
import Derived.KernelRfl
namespace Go.Proofs.YtlgbkkfkobijpacDoor
/- THE CELL 'sum', in the pinned program and in every row, IS THE sha256 OF THE DUMP (.gsa) THAT YtlgbkkfkobijpacDoorProg.lean LOADS. Nothing in Lean hashes anything: it is a label: what it is worth is what the hold of that sum in a sandbox is worth. -/
noncomputable def Tryd.pinned : Pinned := { name := "ytlgbkkfkobijpacdoor", sum := "76d4818d1b335d1214b6ef71909e29852a0ad21c05828cad93442796fd0b3ba1", checked := Tryd.checked }
namespace Rows
def none {H : Type} : Left H := { results := [], args := [] }

/- WHAT THE LISTED PACKAGE-LEVEL VARIABLES READ AS WHEN THE CALL BEGINS. Each datum BY PROGRAM (the guide's laid-datum.mjs) off the statement by which the dump's own 'gosem.cut.vars' lays the variable. In a bare row this is a premise. The card (YtlgbkkfkobijpacDoorCards.lean) ties it to the program's text. -/
def laid_sealskin_hash_first {H : Type} : DataW H := .agg [.lit (.int .u32 1779033703), .lit (.int .u32 3144134277), .lit (.int .u32 1013904242), .lit (.int .u32 2773480762), .lit (.int .u32 1359893119), .lit (.int .u32 2600822924), .lit (.int .u32 528734635), .lit (.int .u32 1541459225)]
def laid_sealskin_hash_orders {H : Type} : DataW H := .agg [.agg [.lit (.int .u8 0), .lit (.int .u8 1), .lit (.int .u8 2), .lit (.int .u8 3), .lit (.int .u8 4), .lit (.int .u8 5), .lit (.int .u8 6), .lit (.int .u8 7), .lit (.int .u8 8), .lit (.int .u8 9), .lit (.int .u8 10), .lit (.int .u8 11), .lit (.int .u8 12), .lit (.int .u8 13), .lit (.int .u8 14), .lit (.int .u8 15)], .agg [.lit (.int .u8 14), .lit (.int .u8 10), .lit (.int .u8 4), .lit (.int .u8 8), .lit (.int .u8 9), .lit (.int .u8 15), .lit (.int .u8 13), .lit (.int .u8 6), .lit (.int .u8 1), .lit (.int .u8 12), .lit (.int .u8 0), .lit (.int .u8 2), .lit (.int .u8 11), .lit (.int .u8 7), .lit (.int .u8 5), .lit (.int .u8 3)], .agg [.lit (.int .u8 11), .lit (.int .u8 8), .lit (.int .u8 12), .lit (.int .u8 0), .lit (.int .u8 5), .lit (.int .u8 2), .lit (.int .u8 15), .lit (.int .u8 13), .lit (.int .u8 10), .lit (.int .u8 14), .lit (.int .u8 3), .lit (.int .u8 6), .lit (.int .u8 7), .lit (.int .u8 1), .lit (.int .u8 9), .lit (.int .u8 4)], .agg [.lit (.int .u8 7), .lit (.int .u8 9), .lit (.int .u8 3), .lit (.int .u8 1), .lit (.int .u8 13), .lit (.int .u8 12), .lit (.int .u8 11), .lit (.int .u8 14), .lit (.int .u8 2), .lit (.int .u8 6), .lit (.int .u8 5), .lit (.int .u8 10), .lit (.int .u8 4), .lit (.int .u8 0), .lit (.int .u8 15), .lit (.int .u8 8)], .agg [.lit (.int .u8 9), .lit (.int .u8 0), .lit (.int .u8 5), .lit (.int .u8 7), .lit (.int .u8 2), .lit (.int .u8 4), .lit (.int .u8 10), .lit (.int .u8 15), .lit (.int .u8 14), .lit (.int .u8 1), .lit (.int .u8 11), .lit (.int .u8 12), .lit (.int .u8 6), .lit (.int .u8 8), .lit (.int .u8 3), .lit (.int .u8 13)], .agg [.lit (.int .u8 2), .lit (.int .u8 12), .lit (.int .u8 6), .lit (.int .u8 10), .lit (.int .u8 0), .lit (.int .u8 11), .lit (.int .u8 8), .lit (.int .u8 3), .lit (.int .u8 4), .lit (.int .u8 13), .lit (.int .u8 7), .lit (.int .u8 5), .lit (.int .u8 15), .lit (.int .u8 14), .lit (.int .u8 1), .lit (.int .u8 9)], .agg [.lit (.int .u8 12), .lit (.int .u8 5), .lit (.int .u8 1), .lit (.int .u8 15), .lit (.int .u8 14), .lit (.int .u8 13), .lit (.int .u8 4), .lit (.int .u8 10), .lit (.int .u8 0), .lit (.int .u8 7), .lit (.int .u8 6), .lit (.int .u8 3), .lit (.int .u8 9), .lit (.int .u8 2), .lit (.int .u8 8), .lit (.int .u8 11)], .agg [.lit (.int .u8 13), .lit (.int .u8 11), .lit (.int .u8 7), .lit (.int .u8 14), .lit (.int .u8 12), .lit (.int .u8 1), .lit (.int .u8 3), .lit (.int .u8 9), .lit (.int .u8 5), .lit (.int .u8 0), .lit (.int .u8 15), .lit (.int .u8 4), .lit (.int .u8 8), .lit (.int .u8 6), .lit (.int .u8 2), .lit (.int .u8 10)], .agg [.lit (.int .u8 6), .lit (.int .u8 15), .lit (.int .u8 14), .lit (.int .u8 9), .lit (.int .u8 11), .lit (.int .u8 3), .lit (.int .u8 0), .lit (.int .u8 8), .lit (.int .u8 12), .lit (.int .u8 2), .lit (.int .u8 13), .lit (.int .u8 7), .lit (.int .u8 1), .lit (.int .u8 4), .lit (.int .u8 10), .lit (.int .u8 5)], .agg [.lit (.int .u8 10), .lit (.int .u8 2), .lit (.int .u8 8), .lit (.int .u8 4), .lit (.int .u8 7), .lit (.int .u8 6), .lit (.int .u8 1), .lit (.int .u8 5), .lit (.int .u8 15), .lit (.int .u8 11), .lit (.int .u8 9), .lit (.int .u8 14), .lit (.int .u8 3), .lit (.int .u8 12), .lit (.int .u8 13), .lit (.int .u8 0)]]
def laid_sealskin_cipher_first {H : Type} : DataW H := .agg [.lit (.int .u32 1634760805), .lit (.int .u32 857760878), .lit (.int .u32 2036477234), .lit (.int .u32 1797285236)]

/-- 'sealskinlaw08.CipherBack': WHATEVER THE INPUT: true; the input reads as it did. -/
def cipherBackSpec : ChangeSpec := { name := "cipherBack", fn := fun _ => fun
  | [d1, d2, d3, d4] => { results := [.lit (.bool true)], args := [d1, d2, d3, d4] }
  | _ => none }
def cipherBackRow : OpenClaim := { program := "ytlgbkkfkobijpacdoor", sum := "76d4818d1b335d1214b6ef71909e29852a0ad21c05828cad93442796fd0b3ba1", func := "sealskin/sealskinlaw08.CipherBack", spec := "cipherBack", unfollowed := true, recurses := true, named := ["sealskin/cipher.first", "sealskin/hash.first", "sealskin/hash.orders"], apart := false, laid := [("sealskin/hash.first", laid_sealskin_hash_first), ("sealskin/hash.orders", laid_sealskin_hash_orders), ("sealskin/cipher.first", laid_sealskin_cipher_first)] }
def CipherBackSaid : Prop := cipherBackRow.holds Tryd.pinned (OpenSpec.ofChange cipherBackSpec)

/-- ITS FALSE NEIGHBOUR: 'it returns false'. Refute it at one input. -/
def cipherBackWrong : ChangeSpec := { name := "cipherBack", fn := fun _ => fun
  | [d1, d2, d3, d4] => { results := [.lit (.bool false)], args := [d1, d2, d3, d4] }
  | _ => none }
def CipherBackWrongFalsely : Prop := cipherBackRow.holds Tryd.pinned (OpenSpec.ofChange cipherBackWrong)

/-- 'sealskinlaw08.CipherForm': WHATEVER THE INPUT: true; the input reads as it did. -/
def cipherFormSpec : ChangeSpec := { name := "cipherForm", fn := fun _ => fun
  | [d1, d2, d3, d4] => { results := [.lit (.bool true)], args := [d1, d2, d3, d4] }
  | _ => none }
def cipherFormRow : OpenClaim := { program := "ytlgbkkfkobijpacdoor", sum := "76d4818d1b335d1214b6ef71909e29852a0ad21c05828cad93442796fd0b3ba1", func := "sealskin/sealskinlaw08.CipherForm", spec := "cipherForm", unfollowed := true, recurses := true, named := ["sealskin/cipher.first", "sealskin/hash.first", "sealskin/hash.orders"], apart := false, laid := [("sealskin/hash.first", laid_sealskin_hash_first), ("sealskin/hash.orders", laid_sealskin_hash_orders), ("sealskin/cipher.first", laid_sealskin_cipher_first)] }
def CipherFormSaid : Prop := cipherFormRow.holds Tryd.pinned (OpenSpec.ofChange cipherFormSpec)

/-- ITS FALSE NEIGHBOUR: 'it returns false'. Refute it at one input. -/
def cipherFormWrong : ChangeSpec := { name := "cipherForm", fn := fun _ => fun
  | [d1, d2, d3, d4] => { results := [.lit (.bool false)], args := [d1, d2, d3, d4] }
  | _ => none }
def CipherFormWrongFalsely : Prop := cipherFormRow.holds Tryd.pinned (OpenSpec.ofChange cipherFormWrong)

/-- 'sealskinlaw08.CipherFronts': WHATEVER THE INPUT: true; the input reads as it did. -/
def cipherFrontsSpec : ChangeSpec := { name := "cipherFronts", fn := fun _ => fun
  | [d1, d2, d3, d4] => { results := [.lit (.bool true)], args := [d1, d2, d3, d4] }
  | _ => none }
def cipherFrontsRow : OpenClaim := { program := "ytlgbkkfkobijpacdoor", sum := "76d4818d1b335d1214b6ef71909e29852a0ad21c05828cad93442796fd0b3ba1", func := "sealskin/sealskinlaw08.CipherFronts", spec := "cipherFronts", unfollowed := true, recurses := true, named := ["sealskin/cipher.first", "sealskin/hash.first", "sealskin/hash.orders"], apart := false, laid := [("sealskin/hash.first", laid_sealskin_hash_first), ("sealskin/hash.orders", laid_sealskin_hash_orders), ("sealskin/cipher.first", laid_sealskin_cipher_first)] }
def CipherFrontsSaid : Prop := cipherFrontsRow.holds Tryd.pinned (OpenSpec.ofChange cipherFrontsSpec)

/-- ITS FALSE NEIGHBOUR: 'it returns false'. Refute it at one input. -/
def cipherFrontsWrong : ChangeSpec := { name := "cipherFronts", fn := fun _ => fun
  | [d1, d2, d3, d4] => { results := [.lit (.bool false)], args := [d1, d2, d3, d4] }
  | _ => none }
def CipherFrontsWrongFalsely : Prop := cipherFrontsRow.holds Tryd.pinned (OpenSpec.ofChange cipherFrontsWrong)

/-- 'sealskinlaw08.CipherTells': WHATEVER THE INPUT: true; the input reads as it did. -/
def cipherTellsSpec : ChangeSpec := { name := "cipherTells", fn := fun _ => fun
  | [d1, d2, d3, d4, d5, d6] => { results := [.lit (.bool true)], args := [d1, d2, d3, d4, d5, d6] }
  | _ => none }
def cipherTellsRow : OpenClaim := { program := "ytlgbkkfkobijpacdoor", sum := "76d4818d1b335d1214b6ef71909e29852a0ad21c05828cad93442796fd0b3ba1", func := "sealskin/sealskinlaw08.CipherTells", spec := "cipherTells", unfollowed := true, recurses := true, named := ["sealskin/cipher.first", "sealskin/hash.first", "sealskin/hash.orders"], apart := false, laid := [("sealskin/hash.first", laid_sealskin_hash_first), ("sealskin/hash.orders", laid_sealskin_hash_orders), ("sealskin/cipher.first", laid_sealskin_cipher_first)] }
def CipherTellsSaid : Prop := cipherTellsRow.holds Tryd.pinned (OpenSpec.ofChange cipherTellsSpec)

/-- ITS FALSE NEIGHBOUR: 'it returns false'. Refute it at one input. -/
def cipherTellsWrong : ChangeSpec := { name := "cipherTells", fn := fun _ => fun
  | [d1, d2, d3, d4, d5, d6] => { results := [.lit (.bool false)], args := [d1, d2, d3, d4, d5, d6] }
  | _ => none }
def CipherTellsWrongFalsely : Prop := cipherTellsRow.holds Tryd.pinned (OpenSpec.ofChange cipherTellsWrong)

/- THE SECOND FORM. 'bulk': how many values and letters a reading holds, each counted each time it is reached (what is shared counts as often as it is met; a slice's spare places count too). A statement '..UptoSaid' is the law's where the arguments, and the package variables that the reading takes, are together of bulk at most 1048576: NARROWER than '..Said'. Prove '..Said' where nothing that the law and all that it calls make is longer than what came in: it says more and counts as full. Else prove '..UptoSaid'. A law counts once. -/
mutual
def uptoBulk {H : Type} : DataW H → Nat
  | .lit (.string bytes) => bytes.length + 1
  | .lit _ => 1
  | .nil => 1
  | .ptr d => uptoBulk d + 1
  | .slice elems spare => uptoBulkAll elems + uptoBulkAll spare + 1
  | .agg parts => uptoBulkAll parts + 1
  | .iface _ d => uptoBulk d + 1
  | .map entries => uptoBulkEntries entries + 1
  | .held _ => 1
def uptoBulkAll {H : Type} : List (DataW H) → Nat
  | [] => 0
  | d :: r => uptoBulk d + uptoBulkAll r
def uptoBulkEntries {H : Type} : List (Lit × DataW H) → Nat
  | [] => 0
  | x :: r => uptoBulkEntry x + uptoBulkEntries r
def uptoBulkEntry {H : Type} : Lit × DataW H → Nat
  | (.string bytes, d) => bytes.length + uptoBulk d + 1
  | (_, d) => uptoBulk d + 1
 end
def uptoSmall : (H : Type) → List (DataW H) → Bool := fun _ ds => decide (uptoBulkAll ds ≤ 1048576)
def OpenSpec.upto (s : _root_.Go.ChangeSpec) : _root_.Go.OpenSpec := { _root_.Go.OpenSpec.ofChange s with cond := some uptoSmall }

/-- 'sealskinlaw08.CipherBack', WHERE WHAT IT READS IS OF BULK AT MOST 1048576: true; the input reads as it did. -/
def cipherBackUptoRow : OpenClaim := { program := "ytlgbkkfkobijpacdoor", sum := "76d4818d1b335d1214b6ef71909e29852a0ad21c05828cad93442796fd0b3ba1", func := "sealskin/sealskinlaw08.CipherBack", spec := "cipherBack", unfollowed := true, recurses := true, named := ["sealskin/cipher.first", "sealskin/hash.first", "sealskin/hash.orders"], apart := false, laid := [("sealskin/hash.first", laid_sealskin_hash_first), ("sealskin/hash.orders", laid_sealskin_hash_orders), ("sealskin/cipher.first", laid_sealskin_cipher_first)], narrowed := true }
def CipherBackUptoSaid : Prop := cipherBackUptoRow.holds Tryd.pinned (OpenSpec.upto cipherBackSpec)

/-- 'sealskinlaw08.CipherForm', WHERE WHAT IT READS IS OF BULK AT MOST 1048576: true; the input reads as it did. -/
def cipherFormUptoRow : OpenClaim := { program := "ytlgbkkfkobijpacdoor", sum := "76d4818d1b335d1214b6ef71909e29852a0ad21c05828cad93442796fd0b3ba1", func := "sealskin/sealskinlaw08.CipherForm", spec := "cipherForm", unfollowed := true, recurses := true, named := ["sealskin/cipher.first", "sealskin/hash.first", "sealskin/hash.orders"], apart := false, laid := [("sealskin/hash.first", laid_sealskin_hash_first), ("sealskin/hash.orders", laid_sealskin_hash_orders), ("sealskin/cipher.first", laid_sealskin_cipher_first)], narrowed := true }
def CipherFormUptoSaid : Prop := cipherFormUptoRow.holds Tryd.pinned (OpenSpec.upto cipherFormSpec)

/-- 'sealskinlaw08.CipherFronts', WHERE WHAT IT READS IS OF BULK AT MOST 1048576: true; the input reads as it did. -/
def cipherFrontsUptoRow : OpenClaim := { program := "ytlgbkkfkobijpacdoor", sum := "76d4818d1b335d1214b6ef71909e29852a0ad21c05828cad93442796fd0b3ba1", func := "sealskin/sealskinlaw08.CipherFronts", spec := "cipherFronts", unfollowed := true, recurses := true, named := ["sealskin/cipher.first", "sealskin/hash.first", "sealskin/hash.orders"], apart := false, laid := [("sealskin/hash.first", laid_sealskin_hash_first), ("sealskin/hash.orders", laid_sealskin_hash_orders), ("sealskin/cipher.first", laid_sealskin_cipher_first)], narrowed := true }
def CipherFrontsUptoSaid : Prop := cipherFrontsUptoRow.holds Tryd.pinned (OpenSpec.upto cipherFrontsSpec)

/-- 'sealskinlaw08.CipherTells', WHERE WHAT IT READS IS OF BULK AT MOST 1048576: true; the input reads as it did. -/
def cipherTellsUptoRow : OpenClaim := { program := "ytlgbkkfkobijpacdoor", sum := "76d4818d1b335d1214b6ef71909e29852a0ad21c05828cad93442796fd0b3ba1", func := "sealskin/sealskinlaw08.CipherTells", spec := "cipherTells", unfollowed := true, recurses := true, named := ["sealskin/cipher.first", "sealskin/hash.first", "sealskin/hash.orders"], apart := false, laid := [("sealskin/hash.first", laid_sealskin_hash_first), ("sealskin/hash.orders", laid_sealskin_hash_orders), ("sealskin/cipher.first", laid_sealskin_cipher_first)], narrowed := true }
def CipherTellsUptoSaid : Prop := cipherTellsUptoRow.holds Tryd.pinned (OpenSpec.upto cipherTellsSpec)

end Rows
end Go.Proofs.YtlgbkkfkobijpacDoor
