/-
  NARROWER THAN 'FOR EVERY INPUT', by the rows' own cells (each row's printed sentence says how): HashEquals: laid · HashKept: laid · HashNobody: laid · CipherTurns: laid · CipherSeals: laid · CipherOpens: laid.
  DERIVED. THE GIVEN ROWS OF THIS SEAT. 6 by the template 'for every input the law returns true; each argument reads behind the call as it read before'; 0 by the template 'total and deterministic' (their statements: YtlgbkkfkobijpabDoorTotals.lean).
  GIVEN WITH THE SEED: the statements are not yours to turn. If you find one false, say at which input.
  Laid BY PROGRAM, IN A SANDBOX (cutbox-rows.mjs): the forced cells as the released guide's own fill.sh prints them over the translation 0d237cb91a683744… (all of the seat's roots in one cut). By AI agents, Wed Nov 11 2026. No macro, syntax, notation, axiom, sorry.
-/
import Derived.Test.YtlgbkkfkobijpabDoorChecked
import GoSem.Claim
import GoSem.ClaimJoined
import GoSem.ClaimMapViews
import Derived.JoinedTies
import Derived.KernelRfl
namespace Go.Proofs.YtlgbkkfkobijpabDoor
/- THE CELL 'sum', in the pinned program and in every row, IS THE sha256 OF THE DUMP (.gsa) THAT YtlgbkkfkobijpabDoorProg.lean LOADS. Nothing in Lean hashes anything: it is a label: what it is worth is what the hold of that sum in a sandbox is worth. -/
noncomputable def Tryd.pinned : Pinned := { name := "ytlgbkkfkobijpabdoor", sum := "0d237cb91a683744c37614eea9bc47c3eb515efee9fbfb7caf59b96b7801ae8f", checked := Tryd.checked }
namespace Rows
def none {H : Type} : Left H := { results := [], args := [] }

/- WHAT THE LISTED PACKAGE-LEVEL VARIABLES READ AS WHEN THE CALL BEGINS. Each datum BY PROGRAM (the guide's laid-datum.mjs) off the statement by which the dump's own 'gosem.cut.vars' lays the variable. In a bare row this is a premise. The card (YtlgbkkfkobijpabDoorCards.lean) ties it to the program's text. -/
def laid_sealskin_hash_first {H : Type} : DataW H := .agg [.lit (.int .u32 1779033703), .lit (.int .u32 3144134277), .lit (.int .u32 1013904242), .lit (.int .u32 2773480762), .lit (.int .u32 1359893119), .lit (.int .u32 2600822924), .lit (.int .u32 528734635), .lit (.int .u32 1541459225)]
def laid_sealskin_hash_orders {H : Type} : DataW H := .agg [.agg [.lit (.int .u8 0), .lit (.int .u8 1), .lit (.int .u8 2), .lit (.int .u8 3), .lit (.int .u8 4), .lit (.int .u8 5), .lit (.int .u8 6), .lit (.int .u8 7), .lit (.int .u8 8), .lit (.int .u8 9), .lit (.int .u8 10), .lit (.int .u8 11), .lit (.int .u8 12), .lit (.int .u8 13), .lit (.int .u8 14), .lit (.int .u8 15)], .agg [.lit (.int .u8 14), .lit (.int .u8 10), .lit (.int .u8 4), .lit (.int .u8 8), .lit (.int .u8 9), .lit (.int .u8 15), .lit (.int .u8 13), .lit (.int .u8 6), .lit (.int .u8 1), .lit (.int .u8 12), .lit (.int .u8 0), .lit (.int .u8 2), .lit (.int .u8 11), .lit (.int .u8 7), .lit (.int .u8 5), .lit (.int .u8 3)], .agg [.lit (.int .u8 11), .lit (.int .u8 8), .lit (.int .u8 12), .lit (.int .u8 0), .lit (.int .u8 5), .lit (.int .u8 2), .lit (.int .u8 15), .lit (.int .u8 13), .lit (.int .u8 10), .lit (.int .u8 14), .lit (.int .u8 3), .lit (.int .u8 6), .lit (.int .u8 7), .lit (.int .u8 1), .lit (.int .u8 9), .lit (.int .u8 4)], .agg [.lit (.int .u8 7), .lit (.int .u8 9), .lit (.int .u8 3), .lit (.int .u8 1), .lit (.int .u8 13), .lit (.int .u8 12), .lit (.int .u8 11), .lit (.int .u8 14), .lit (.int .u8 2), .lit (.int .u8 6), .lit (.int .u8 5), .lit (.int .u8 10), .lit (.int .u8 4), .lit (.int .u8 0), .lit (.int .u8 15), .lit (.int .u8 8)], .agg [.lit (.int .u8 9), .lit (.int .u8 0), .lit (.int .u8 5), .lit (.int .u8 7), .lit (.int .u8 2), .lit (.int .u8 4), .lit (.int .u8 10), .lit (.int .u8 15), .lit (.int .u8 14), .lit (.int .u8 1), .lit (.int .u8 11), .lit (.int .u8 12), .lit (.int .u8 6), .lit (.int .u8 8), .lit (.int .u8 3), .lit (.int .u8 13)], .agg [.lit (.int .u8 2), .lit (.int .u8 12), .lit (.int .u8 6), .lit (.int .u8 10), .lit (.int .u8 0), .lit (.int .u8 11), .lit (.int .u8 8), .lit (.int .u8 3), .lit (.int .u8 4), .lit (.int .u8 13), .lit (.int .u8 7), .lit (.int .u8 5), .lit (.int .u8 15), .lit (.int .u8 14), .lit (.int .u8 1), .lit (.int .u8 9)], .agg [.lit (.int .u8 12), .lit (.int .u8 5), .lit (.int .u8 1), .lit (.int .u8 15), .lit (.int .u8 14), .lit (.int .u8 13), .lit (.int .u8 4), .lit (.int .u8 10), .lit (.int .u8 0), .lit (.int .u8 7), .lit (.int .u8 6), .lit (.int .u8 3), .lit (.int .u8 9), .lit (.int .u8 2), .lit (.int .u8 8), .lit (.int .u8 11)], .agg [.lit (.int .u8 13), .lit (.int .u8 11), .lit (.int .u8 7), .lit (.int .u8 14), .lit (.int .u8 12), .lit (.int .u8 1), .lit (.int .u8 3), .lit (.int .u8 9), .lit (.int .u8 5), .lit (.int .u8 0), .lit (.int .u8 15), .lit (.int .u8 4), .lit (.int .u8 8), .lit (.int .u8 6), .lit (.int .u8 2), .lit (.int .u8 10)], .agg [.lit (.int .u8 6), .lit (.int .u8 15), .lit (.int .u8 14), .lit (.int .u8 9), .lit (.int .u8 11), .lit (.int .u8 3), .lit (.int .u8 0), .lit (.int .u8 8), .lit (.int .u8 12), .lit (.int .u8 2), .lit (.int .u8 13), .lit (.int .u8 7), .lit (.int .u8 1), .lit (.int .u8 4), .lit (.int .u8 10), .lit (.int .u8 5)], .agg [.lit (.int .u8 10), .lit (.int .u8 2), .lit (.int .u8 8), .lit (.int .u8 4), .lit (.int .u8 7), .lit (.int .u8 6), .lit (.int .u8 1), .lit (.int .u8 5), .lit (.int .u8 15), .lit (.int .u8 11), .lit (.int .u8 9), .lit (.int .u8 14), .lit (.int .u8 3), .lit (.int .u8 12), .lit (.int .u8 13), .lit (.int .u8 0)]]
def laid_sealskin_cipher_first {H : Type} : DataW H := .agg [.lit (.int .u32 1634760805), .lit (.int .u32 857760878), .lit (.int .u32 2036477234), .lit (.int .u32 1797285236)]

/-- 'sealskinlaw07.HashEquals': WHATEVER THE INPUT: true; the input reads as it did. -/
def hashEqualsSpec : ChangeSpec := { name := "hashEquals", fn := fun _ => fun
  | [d1, d2] => { results := [.lit (.bool true)], args := [d1, d2] }
  | _ => none }
def hashEqualsRow : OpenClaim := { program := "ytlgbkkfkobijpabdoor", sum := "0d237cb91a683744c37614eea9bc47c3eb515efee9fbfb7caf59b96b7801ae8f", func := "sealskin/sealskinlaw07.HashEquals", spec := "hashEquals", named := ["sealskin/hash.first", "sealskin/hash.orders"], apart := false, laid := [("sealskin/hash.first", laid_sealskin_hash_first), ("sealskin/hash.orders", laid_sealskin_hash_orders)] }
def HashEqualsSaid : Prop := hashEqualsRow.holds Tryd.pinned (OpenSpec.ofChange hashEqualsSpec)

/-- ITS FALSE NEIGHBOUR: 'it returns false'. Refute it at one input. -/
def hashEqualsWrong : ChangeSpec := { name := "hashEquals", fn := fun _ => fun
  | [d1, d2] => { results := [.lit (.bool false)], args := [d1, d2] }
  | _ => none }
def HashEqualsWrongFalsely : Prop := hashEqualsRow.holds Tryd.pinned (OpenSpec.ofChange hashEqualsWrong)

/-- 'sealskinlaw07.HashKept': WHATEVER THE INPUT: true; the input reads as it did. -/
def hashKeptSpec : ChangeSpec := { name := "hashKept", fn := fun _ => fun
  | [d1, d2] => { results := [.lit (.bool true)], args := [d1, d2] }
  | _ => none }
def hashKeptRow : OpenClaim := { program := "ytlgbkkfkobijpabdoor", sum := "0d237cb91a683744c37614eea9bc47c3eb515efee9fbfb7caf59b96b7801ae8f", func := "sealskin/sealskinlaw07.HashKept", spec := "hashKept", named := ["sealskin/hash.first", "sealskin/hash.orders"], apart := false, laid := [("sealskin/hash.first", laid_sealskin_hash_first), ("sealskin/hash.orders", laid_sealskin_hash_orders)] }
def HashKeptSaid : Prop := hashKeptRow.holds Tryd.pinned (OpenSpec.ofChange hashKeptSpec)

/-- ITS FALSE NEIGHBOUR: 'it returns false'. Refute it at one input. -/
def hashKeptWrong : ChangeSpec := { name := "hashKept", fn := fun _ => fun
  | [d1, d2] => { results := [.lit (.bool false)], args := [d1, d2] }
  | _ => none }
def HashKeptWrongFalsely : Prop := hashKeptRow.holds Tryd.pinned (OpenSpec.ofChange hashKeptWrong)

/-- 'sealskinlaw07.HashNobody': WHATEVER THE INPUT: true; the input reads as it did. -/
def hashNobodySpec : ChangeSpec := { name := "hashNobody", fn := fun _ => fun
  | [d] => { results := [.lit (.bool true)], args := [d] }
  | _ => none }
def hashNobodyRow : OpenClaim := { program := "ytlgbkkfkobijpabdoor", sum := "0d237cb91a683744c37614eea9bc47c3eb515efee9fbfb7caf59b96b7801ae8f", func := "sealskin/sealskinlaw07.HashNobody", spec := "hashNobody", named := ["sealskin/hash.first", "sealskin/hash.orders"], apart := false, laid := [("sealskin/hash.first", laid_sealskin_hash_first), ("sealskin/hash.orders", laid_sealskin_hash_orders)] }
def HashNobodySaid : Prop := hashNobodyRow.holds Tryd.pinned (OpenSpec.ofChange hashNobodySpec)

/-- ITS FALSE NEIGHBOUR: 'it returns false'. Refute it at one input. -/
def hashNobodyWrong : ChangeSpec := { name := "hashNobody", fn := fun _ => fun
  | [d] => { results := [.lit (.bool false)], args := [d] }
  | _ => none }
def HashNobodyWrongFalsely : Prop := hashNobodyRow.holds Tryd.pinned (OpenSpec.ofChange hashNobodyWrong)

/-- 'sealskinlaw08.CipherTurns': WHATEVER THE INPUT: true; the input reads as it did. -/
def cipherTurnsSpec : ChangeSpec := { name := "cipherTurns", fn := fun _ => fun
  | [d1, d2, d3] => { results := [.lit (.bool true)], args := [d1, d2, d3] }
  | _ => none }
def cipherTurnsRow : OpenClaim := { program := "ytlgbkkfkobijpabdoor", sum := "0d237cb91a683744c37614eea9bc47c3eb515efee9fbfb7caf59b96b7801ae8f", func := "sealskin/sealskinlaw08.CipherTurns", spec := "cipherTurns", unfollowed := true, recurses := true, named := ["sealskin/cipher.first", "sealskin/hash.first", "sealskin/hash.orders"], apart := false, laid := [("sealskin/hash.first", laid_sealskin_hash_first), ("sealskin/hash.orders", laid_sealskin_hash_orders), ("sealskin/cipher.first", laid_sealskin_cipher_first)] }
def CipherTurnsSaid : Prop := cipherTurnsRow.holds Tryd.pinned (OpenSpec.ofChange cipherTurnsSpec)

/-- ITS FALSE NEIGHBOUR: 'it returns false'. Refute it at one input. -/
def cipherTurnsWrong : ChangeSpec := { name := "cipherTurns", fn := fun _ => fun
  | [d1, d2, d3] => { results := [.lit (.bool false)], args := [d1, d2, d3] }
  | _ => none }
def CipherTurnsWrongFalsely : Prop := cipherTurnsRow.holds Tryd.pinned (OpenSpec.ofChange cipherTurnsWrong)

/-- 'sealskinlaw08.CipherSeals': WHATEVER THE INPUT: true; the input reads as it did. -/
def cipherSealsSpec : ChangeSpec := { name := "cipherSeals", fn := fun _ => fun
  | [d1, d2, d3, d4] => { results := [.lit (.bool true)], args := [d1, d2, d3, d4] }
  | _ => none }
def cipherSealsRow : OpenClaim := { program := "ytlgbkkfkobijpabdoor", sum := "0d237cb91a683744c37614eea9bc47c3eb515efee9fbfb7caf59b96b7801ae8f", func := "sealskin/sealskinlaw08.CipherSeals", spec := "cipherSeals", unfollowed := true, recurses := true, named := ["sealskin/cipher.first", "sealskin/hash.first", "sealskin/hash.orders"], apart := false, laid := [("sealskin/hash.first", laid_sealskin_hash_first), ("sealskin/hash.orders", laid_sealskin_hash_orders), ("sealskin/cipher.first", laid_sealskin_cipher_first)] }
def CipherSealsSaid : Prop := cipherSealsRow.holds Tryd.pinned (OpenSpec.ofChange cipherSealsSpec)

/-- ITS FALSE NEIGHBOUR: 'it returns false'. Refute it at one input. -/
def cipherSealsWrong : ChangeSpec := { name := "cipherSeals", fn := fun _ => fun
  | [d1, d2, d3, d4] => { results := [.lit (.bool false)], args := [d1, d2, d3, d4] }
  | _ => none }
def CipherSealsWrongFalsely : Prop := cipherSealsRow.holds Tryd.pinned (OpenSpec.ofChange cipherSealsWrong)

/-- 'sealskinlaw08.CipherOpens': WHATEVER THE INPUT: true; the input reads as it did. -/
def cipherOpensSpec : ChangeSpec := { name := "cipherOpens", fn := fun _ => fun
  | [d1, d2, d3, d4] => { results := [.lit (.bool true)], args := [d1, d2, d3, d4] }
  | _ => none }
def cipherOpensRow : OpenClaim := { program := "ytlgbkkfkobijpabdoor", sum := "0d237cb91a683744c37614eea9bc47c3eb515efee9fbfb7caf59b96b7801ae8f", func := "sealskin/sealskinlaw08.CipherOpens", spec := "cipherOpens", unfollowed := true, recurses := true, named := ["sealskin/cipher.first", "sealskin/hash.first", "sealskin/hash.orders"], apart := false, laid := [("sealskin/hash.first", laid_sealskin_hash_first), ("sealskin/hash.orders", laid_sealskin_hash_orders), ("sealskin/cipher.first", laid_sealskin_cipher_first)] }
def CipherOpensSaid : Prop := cipherOpensRow.holds Tryd.pinned (OpenSpec.ofChange cipherOpensSpec)

/-- ITS FALSE NEIGHBOUR: 'it returns false'. Refute it at one input. -/
def cipherOpensWrong : ChangeSpec := { name := "cipherOpens", fn := fun _ => fun
  | [d1, d2, d3, d4] => { results := [.lit (.bool false)], args := [d1, d2, d3, d4] }
  | _ => none }
def CipherOpensWrongFalsely : Prop := cipherOpensRow.holds Tryd.pinned (OpenSpec.ofChange cipherOpensWrong)

/- THE SECOND FORM. 'bulk': how many values and letters a reading holds, each counted each time it is reached (what is shared counts as often as it is met; a slice's spare places count too). A statement '..UptoSaid' is the law's where the arguments, and the package variables that the reading takes, are together of bulk at most 1048576: NARROWER than '..Said'. Prove '..Said' where nothing that the law and all that it calls make is longer than what came in: it says more and counts as full. Else prove '..UptoSaid'. A law counts once. -/
mutual
def uptoBulk {H : Type} : DataW H → Nat
  | .lit (.string bytes) => bytes.length + 1
  | .lit _ => 1
  | .nil => 1
  | .ptr d => uptoBulk d + 1
  | .slice elems spare => uptoBulkAll elems + uptoBulkAll spare + 1
  | .agg parts => uptoBulkAll parts + 1
  | .iface _ d => uptoBulk d + 1
  | .map entries => uptoBulkEntries entries + 1
  | .held _ => 1
def uptoBulkAll {H : Type} : List (DataW H) → Nat
  | [] => 0
  | d :: r => uptoBulk d + uptoBulkAll r
def uptoBulkEntries {H : Type} : List (Lit × DataW H) → Nat
  | [] => 0
  | x :: r => uptoBulkEntry x + uptoBulkEntries r
def uptoBulkEntry {H : Type} : Lit × DataW H → Nat
  | (.string bytes, d) => bytes.length + uptoBulk d + 1
  | (_, d) => uptoBulk d + 1
 end
def uptoSmall : (H : Type) → List (DataW H) → Bool := fun _ ds => decide (uptoBulkAll ds ≤ 1048576)
def OpenSpec.upto (s : _root_.Go.ChangeSpec) : _root_.Go.OpenSpec := { _root_.Go.OpenSpec.ofChange s with cond := some uptoSmall }

/-- 'sealskinlaw07.HashEquals', WHERE WHAT IT READS IS OF BULK AT MOST 1048576: true; the input reads as it did. -/
def hashEqualsUptoRow : OpenClaim := { program := "ytlgbkkfkobijpabdoor", sum := "0d237cb91a683744c37614eea9bc47c3eb515efee9fbfb7caf59b96b7801ae8f", func := "sealskin/sealskinlaw07.HashEquals", spec := "hashEquals", named := ["sealskin/hash.first", "sealskin/hash.orders"], apart := false, laid := [("sealskin/hash.first", laid_sealskin_hash_first), ("sealskin/hash.orders", laid_sealskin_hash_orders)], narrowed := true }
def HashEqualsUptoSaid : Prop := hashEqualsUptoRow.holds Tryd.pinned (OpenSpec.upto hashEqualsSpec)

/-- 'sealskinlaw07.HashKept', WHERE WHAT IT READS IS OF BULK AT MOST 1048576: true; the input reads as it did. -/
def hashKeptUptoRow : OpenClaim := { program := "ytlgbkkfkobijpabdoor", sum := "0d237cb91a683744c37614eea9bc47c3eb515efee9fbfb7caf59b96b7801ae8f", func := "sealskin/sealskinlaw07.HashKept", spec := "hashKept", named := ["sealskin/hash.first", "sealskin/hash.orders"], apart := false, laid := [("sealskin/hash.first", laid_sealskin_hash_first), ("sealskin/hash.orders", laid_sealskin_hash_orders)], narrowed := true }
def HashKeptUptoSaid : Prop := hashKeptUptoRow.holds Tryd.pinned (OpenSpec.upto hashKeptSpec)

/-- 'sealskinlaw07.HashNobody', WHERE WHAT IT READS IS OF BULK AT MOST 1048576: true; the input reads as it did. -/
def hashNobodyUptoRow : OpenClaim := { program := "ytlgbkkfkobijpabdoor", sum := "0d237cb91a683744c37614eea9bc47c3eb515efee9fbfb7caf59b96b7801ae8f", func := "sealskin/sealskinlaw07.HashNobody", spec := "hashNobody", named := ["sealskin/hash.first", "sealskin/hash.orders"], apart := false, laid := [("sealskin/hash.first", laid_sealskin_hash_first), ("sealskin/hash.orders", laid_sealskin_hash_orders)], narrowed := true }
def HashNobodyUptoSaid : Prop := hashNobodyUptoRow.holds Tryd.pinned (OpenSpec.upto hashNobodySpec)

/-- 'sealskinlaw08.CipherTurns', WHERE WHAT IT READS IS OF BULK AT MOST 1048576: true; the input reads as it did. -/
def cipherTurnsUptoRow : OpenClaim := { program := "ytlgbkkfkobijpabdoor", sum := "0d237cb91a683744c37614eea9bc47c3eb515efee9fbfb7caf59b96b7801ae8f", func := "sealskin/sealskinlaw08.CipherTurns", spec := "cipherTurns", unfollowed := true, recurses := true, named := ["sealskin/cipher.first", "sealskin/hash.first", "sealskin/hash.orders"], apart := false, laid := [("sealskin/hash.first", laid_sealskin_hash_first), ("sealskin/hash.orders", laid_sealskin_hash_orders), ("sealskin/cipher.first", laid_sealskin_cipher_first)], narrowed := true }
def CipherTurnsUptoSaid : Prop := cipherTurnsUptoRow.holds Tryd.pinned (OpenSpec.upto cipherTurnsSpec)

/-- 'sealskinlaw08.CipherSeals', WHERE WHAT IT READS IS OF BULK AT MOST 1048576: true; the input reads as it did. -/
def cipherSealsUptoRow : OpenClaim := { program := "ytlgbkkfkobijpabdoor", sum := "0d237cb91a683744c37614eea9bc47c3eb515efee9fbfb7caf59b96b7801ae8f", func := "sealskin/sealskinlaw08.CipherSeals", spec := "cipherSeals", unfollowed := true, recurses := true, named := ["sealskin/cipher.first", "sealskin/hash.first", "sealskin/hash.orders"], apart := false, laid := [("sealskin/hash.first", laid_sealskin_hash_first), ("sealskin/hash.orders", laid_sealskin_hash_orders), ("sealskin/cipher.first", laid_sealskin_cipher_first)], narrowed := true }
def CipherSealsUptoSaid : Prop := cipherSealsUptoRow.holds Tryd.pinned (OpenSpec.upto cipherSealsSpec)

/-- 'sealskinlaw08.CipherOpens', WHERE WHAT IT READS IS OF BULK AT MOST 1048576: true; the input reads as it did. -/
def cipherOpensUptoRow : OpenClaim := { program := "ytlgbkkfkobijpabdoor", sum := "0d237cb91a683744c37614eea9bc47c3eb515efee9fbfb7caf59b96b7801ae8f", func := "sealskin/sealskinlaw08.CipherOpens", spec := "cipherOpens", unfollowed := true, recurses := true, named := ["sealskin/cipher.first", "sealskin/hash.first", "sealskin/hash.orders"], apart := false, laid := [("sealskin/hash.first", laid_sealskin_hash_first), ("sealskin/hash.orders", laid_sealskin_hash_orders), ("sealskin/cipher.first", laid_sealskin_cipher_first)], narrowed := true }
def CipherOpensUptoSaid : Prop := cipherOpensUptoRow.holds Tryd.pinned (OpenSpec.upto cipherOpensSpec)

end Rows
end Go.Proofs.YtlgbkkfkobijpabDoor
