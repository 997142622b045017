/- The law's own: applied, index, long. -/
import Derived.Test.YtdnbhomjfgpcfaaDoorLEq
import Derived.Test.YtdnbhomjfgpcfaaDoorRow0
namespace Go.Proofs.YtdnbhomjfgpcfaaDoor
set_option linter.unusedVariables false
set_option linter.unusedSimpArgs false
open Go.ChangeShapes Go.WideShapes Go.ChangeAt Go.RowKit Go.Joins Go.Deep

set_option maxRecDepth 100000 in
set_option maxHeartbeats 4000000 in
theorem applied_any (a : Option Addr) (l : List Pt) (c m t : Nat) (s : ByteArray) (cs : List (List UInt8)) (w : World) (hT : UT w) (he : Edit w a l c) (hm : l.length = m) (hx : Tx s cs) (hed : IsEd l cs.length t) :
    Calls Tryd.prog 35 #[.slice a m c, .string s] w fun r w' => ∃ S, r = .returned (.string S) ∧ Tx S (At.app (atomsL l) cs) ∧ Below w.heap.size w w' := by
  have K := hide (apply_at (w := w) s hT he hm (hx.small rfl hed.2.2.2.1) (Below.refl _ _))
  have HO := hide (ed_isOf hx hed)
  have HX := hide hx
  clear hT he hm hx hed
  go_enter Tryd.func35, Tryd.ntmps35
  go_wp2_with fail
  refine Calls.mono (unhide K) ?_
  rintro r w1 ⟨h1, b1⟩
  rcases h1 with ⟨h1, _⟩ | ⟨_, S, c1, x1, x2, rfl⟩
  · rw [unhide HO] at h1; cases h1
  obtain rfl : c1 = cs := x1.inj (unhide HX)
  have HE := hide (And.intro x2 b1)
  clear x1 x2 b1
  go_wp2_with fail
  go_ret
  exact ⟨S, rfl, (unhide HE).1, (unhide HE).2⟩
def IdxR (s : ByteArray) (cs : List (List UInt8)) (w : World) (r : Ending) (w' : World) : Prop := ∃ g vr vs, r = .returned (.pointer (some ⟨g, 0, none⟩)) ∧ Ix w' w.heap.size g vr vs cs ∧ Below w.heap.size w w'
theorem IdxR.shape {s : ByteArray} {cs : List (List UInt8)} {w w' : World} {r : Ending} (h : IdxR s cs w r w') : ∃ g vr vs, r = .returned (.pointer (some ⟨g, 0, none⟩)) ∧ Ix w' w.heap.size g vr vs cs ∧ Below w.heap.size w w' := h
set_option maxRecDepth 100000 in
set_option maxHeartbeats 4000000 in
theorem index_any (s : ByteArray) (cs : List (List UInt8)) (w : World) (hT : UT w) (hs : s.size ≤ 1099511627776) (hx : Tx s cs) : Calls Tryd.prog 26 #[.string s] w fun r w' => IdxR s cs w r w' := by
  have K := hide (new_any s w hT hs)
  have HX := hide hx
  clear hT hx
  go_enter Tryd.func26, Tryd.ntmps26
  go_wp2_with fail
  refine Calls.mono (unhide K) ?_
  rintro r w1 ⟨h1, b1⟩
  rcases h1 with ⟨hv, _⟩ | ⟨c1, g, vr, vs, x1, rfl, hI⟩
  · rw [(unhide HX).valid] at hv
    cases hv
  obtain rfl : c1 = cs := x1.inj (unhide HX)
  have HE := hide (And.intro hI b1)
  clear x1 hI b1
  go_wp2_with fail
  go_ret
  exact ⟨_, _, _, rfl, (unhide HE).1, (unhide HE).2⟩
end Go.Proofs.YtdnbhomjfgpcfaaDoor
