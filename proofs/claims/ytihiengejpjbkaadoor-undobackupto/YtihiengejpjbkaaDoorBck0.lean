/- An edit and its inverse change nothing: the walk. -/
import Derived.Test.YtihiengejpjbkaaDoorIvt
namespace Go.Proofs.YtihiengejpjbkaaDoor
set_option linter.unusedVariables false
set_option linter.unusedSimpArgs false
open Go.ChangeShapes Go.WideShapes Go.ChangeAt Go.RowKit Go.Joins Go.Deep

theorem invert_at {w W : World} {a : Option Addr} {l : List Pt} {c n : Nat} (s : ByteArray) (hU : UT W) (he : Edit W a l c) (hn : l.length = n) (hl : n ≤ 1099511627776) (hs : s.size ≤ 281474976710656) (hb : Below w.heap.size w W) :
    Calls Tryd.prog 31 #[.slice a n c, .string s] W fun r w' => IvtR W w' l s r ∧ Below w.heap.size w w' := by
  subst hn
  refine Calls.mono (invert_any a l c s W hU he.pts (Nat.le_trans he.cap he.max) he.txt2 hs hl) ?_
  rintro r w' ⟨h, h2⟩
  exact ⟨h, hb.trans (h2.mono hb.size)⟩
theorem ed_inv {l c : List Pt} {t : Nat} {cs : List (List UInt8)} (h : IsEd l cs.length t) (h3 : NfG 0 c) (h4 : atomsL c = At.can (At.inv (atomsL l) cs)) : IsEd c t cs.length := by
  have hs := At.inv_sizes (atomsL l) cs h.2.1.symm
  refine ⟨h3, ?_, ?_, h.2.2.2.2, h.2.2.2.1⟩
  · rw [h4, ← At.fromN_sw (At.can_sw _), hs.1, h.2.2.1]
  · rw [h4, ← At.toN_sw (At.can_sw _), hs.2, h.2.1]
end Go.Proofs.YtihiengejpjbkaaDoor
