/- A composed edit makes what both make: the walk. -/
import Derived.Test.YtonabfpgdgnpnaaDoorAwk
import Derived.Test.YtonabfpgdgnpnaaDoorLgt
namespace Go.Proofs.YtonabfpgdgnpnaaDoor
set_option linter.unusedVariables false
set_option linter.unusedSimpArgs false
open Go.ChangeShapes Go.WideShapes Go.ChangeAt Go.RowKit Go.Joins Go.Deep

theorem Edit.call {w w' : World} {a : Option Addr} {l : List Pt} {c : Nat} (h : Edit w a l c) (hb : Below w.heap.size w w') : Edit w' a l c := ⟨h.pts.call hb, h.at_.call hb, h.cap, h.max, h.txt, h.num⟩
theorem OwnP.edit {w : World} {B : Nat} {v : Value} {l : List Pt} (h : OwnP w B v l) (ht : ∀ p ∈ l, p.text.size ≤ 140737488351232) (hn : l.length ≤ 4398046511104) : ∃ a c, v = .slice a l.length c ∧ Edit w a l c := by
  obtain ⟨a, c, e, h1, h2, h3, h4⟩ := h.open
  exact ⟨a, c, e, h1, h2, h3, h4, ht, hn⟩
theorem ed_txt {l : List Pt} {f t : Nat} (h : IsEd l f t) : ∀ p ∈ l, p.text.size ≤ 140737488351232 := fun p hp => by
  have h1 := ed_fit h p hp
  have := h1.1.size
  have := h1.2
  omega
theorem Edit.txt2 {w : World} {a : Option Addr} {l : List Pt} {c : Nat} (h : Edit w a l c) : ∀ p ∈ l, p.text.size ≤ 281474976710656 := fun p hp => by have := h.txt p hp; omega
theorem ed_comp {la lb c : List Pt} {n m t : Nat} (h1 : IsEd la n m) (h2 : IsEd lb m t) (h3 : NfG 0 c) (h4 : atomsL c = At.can (At.comp (atomsL la) (atomsL lb))) : IsEd c n t := by
  have hs : At.toN (atomsL la) = At.fromN (atomsL lb) := by rw [h1.2.2.1, h2.2.1]
  refine ⟨h3, ?_, ?_, h1.2.2.2.1, h2.2.2.2.2⟩
  · rw [h4, ← At.fromN_sw (At.can_sw _), At.comp_from _ _ hs, h1.2.1]
  · rw [h4, ← At.toN_sw (At.can_sw _), At.comp_to _ _ hs, h2.2.2.1]
theorem Tx.small {s : ByteArray} {cs : List (List UInt8)} (h : Tx s cs) {n : Nat} (hl : cs.length = n) (hn : n ≤ 1099511627776) : s.size ≤ 281474976710656 := by
  have h1 := h.cps.most
  rw [← h.size] at h1
  omega
theorem Tx.same {s t : ByteArray} {cs : List (List UInt8)} (h : Tx s cs) (k : Tx t cs) : s = t := by rw [h.bytes, k.bytes]
/-- Apply, whatever comes of it -/
theorem apply_at {w W : World} {a : Option Addr} {l : List Pt} {c n : Nat} (s : ByteArray) (hU : UT W) (he : Edit W a l c) (hn : l.length = n) (hs : s.size ≤ 281474976710656) (hb : Below w.heap.size w W) :
    Calls Tryd.prog 20 #[.slice a n c, .string s] W fun r w' => AplR l s r ∧ Below w.heap.size w w' := by
  subst hn
  refine Calls.mono (apply_any a l c s W hU he.pts (Nat.le_trans he.cap he.max) he.txt2 hs) ?_
  rintro r w' ⟨h, h2⟩
  exact ⟨h, hb.trans (h2.mono hb.size)⟩
/-- what Apply made is an edit's text -/
theorem apl_ok {l : List Pt} {s : ByteArray} (h : isOfB l s = true) : ∃ cs t, Tx s cs ∧ IsEd l cs.length t := isOf_ed h
end Go.Proofs.YtonabfpgdgnpnaaDoor
