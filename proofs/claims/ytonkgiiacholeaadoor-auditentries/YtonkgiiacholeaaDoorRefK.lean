/- The reference's digests by a key. -/
import Derived.Test.YtonkgiiacholeaaDoorRefX
import Derived.Test.YtonkgiiacholeaaDoorRefD
import Derived.Test.YtonkgiiacholeaaDoorKeyed
namespace Go.Proofs.YtonkgiiacholeaaDoor
set_option linter.unusedVariables false
set_option linter.unusedSimpArgs false
open Go.ChangeShapes Go.WideShapes Go.ChangeAt Go.RowKit Go.Joins

theorem digest_any (kv uv : Value) (key b : List Nat) (w : World) (hk : Byt w kv key) (hb : Byt w uv b) (hk8 : U8 key) (hb8 : U8 b) (hkl : key.length ≤ 32) (hbl : b.length ≤ 1000000) :
    Calls Tryd.prog 59 #[kv, uv] w fun e w' => e = .returned (.agg (bv (sumL (stW key.length) (kblk key ++ b))).toArray) ∧ Below w.heap.size w w' :=
  digest_of (fun h b n last v w hh h32 hv hb h8 hn => rmix_any h b n last v w hh h32 hv hb h8 hn) kv uv key b w hk hb hk8 hb8 hkl hbl
/-- the bytes of a whole array -/
theorem Byt.row {w : World} {g : Nat} {t : TypeId} {l : List Nat} {n : Nat} (h : RowAt w g t (bv l)) (hn : l.length = n) (hm : n ≤ maxLen) : Byt w (.slice (some ⟨g, 0, none⟩) n n) l := by
  subst hn
  refine .inr ⟨_, _, rfl, Nat.le_refl _, hm, fun i y hy => ?_⟩
  rw [add_plain, Nat.zero_add, h.cell, bv, List.getElem?_map, hy]
  rfl

end Go.Proofs.YtonkgiiacholeaaDoor
