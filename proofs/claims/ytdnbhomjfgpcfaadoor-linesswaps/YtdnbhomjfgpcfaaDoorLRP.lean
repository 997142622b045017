/- The document's lines: mathematics. -/
import Derived.Test.YtdnbhomjfgpcfaaDoorLB
import Derived.Test.YtdnbhomjfgpcfaaDoorLA
namespace Go.Proofs.YtdnbhomjfgpcfaaDoor
set_option linter.unusedVariables false
set_option linter.unusedSimpArgs false
open Go.ChangeShapes Go.WideShapes Go.ChangeAt Go.RowKit Go.Joins Go.Deep

/-- the document's walk for Swap -/
def rsL (P : List Int) (T : List Int) (n : Nat) (s : ByteArray) : Nat → Nat × List Pt
  | 0 => (0, [])
  | i + 1 =>
    let q := rsL P T n s i
    if i < q.1 then q else if P.isPrefixOf (T.drop i) = true then (i + P.length, q.2 ++ [⟨2, (n : Int), s⟩, ⟨3, (P.length : Int), ⟨#[]⟩⟩]) else (q.1, q.2 ++ [⟨1, 1, ⟨#[]⟩⟩])
structure RS (P : List Int) (ws : List (List UInt8)) (T : List Int) (z i skip : Nat) (L : List Pt) : Prop where
  eq : atomsL (L.filter fitsB) ++ swA P ws (T.drop (max i skip)) = swA P ws T
  le : skip ≤ T.length
  len : L.length ≤ 2 * i
  txt : sumT L ≤ i * z
theorem RS.start (P : List Int) (ws : List (List UInt8)) (T : List Int) (z : Nat) : RS P ws T z 0 0 [] := ⟨by simp [atomsL], by omega, by simp, by simp [sumT]⟩
theorem RS.pass {P : List Int} {ws : List (List UInt8)} {T : List Int} {z i skip : Nat} {L : List Pt} (h : RS P ws T z i skip L) (hi : i < skip) : RS P ws T z (i + 1) skip L := by
  refine ⟨?_, h.le, by have := h.len; omega, ?_⟩
  · have := h.eq
    rw [show max i skip = skip by omega] at this
    rw [show max (i + 1) skip = skip by omega]
    exact this
  · have := h.txt
    rw [Nat.add_mul]
    omega
theorem RS.hit {P : List Int} {ws : List (List UInt8)} {T : List Int} {i skip n : Nat} {L : List Pt} {s : ByteArray} (h : RS P ws T s.size i skip L) (hP : 0 < P.length) (hi : skip ≤ i) (hp : P <+: T.drop i) (hx : Tx s ws) (hn : ws.length = n) (h2 : n ≤ 1099511627776) (hT : T.length ≤ 1099511627776) : RS P ws T s.size (i + 1) (i + P.length) (L ++ [⟨2, (n : Int), s⟩, ⟨3, (P.length : Int), ⟨#[]⟩⟩]) := by
  have hl := hp.length_le
  rw [List.length_drop] at hl
  have e := h.eq
  rw [show max i skip = i by omega, swA_hit hP hp] at e
  refine ⟨?_, by omega, ?_, ?_⟩
  · rw [show max (i + 1) (i + P.length) = i + P.length by omega, ← e, List.filter_append]
    have a1 := one_p hx hn h2
    have a2 := one_d (P.length : Int) (by omega)
    rw [show ([⟨2, (n : Int), s⟩, ⟨3, (P.length : Int), ⟨#[]⟩⟩] : List Pt) = [⟨2, (n : Int), s⟩] ++ [⟨3, (P.length : Int), ⟨#[]⟩⟩] from rfl, List.filter_append, atomsL_append, atomsL_append, a1, a2, Int.toNat_natCast, List.drop_drop]
    simp only [List.append_assoc]
  · rw [List.length_append]
    have := h.len
    simp
    omega
  · rw [show (L ++ [⟨2, (n : Int), s⟩, ⟨3, (P.length : Int), ⟨#[]⟩⟩] : List Pt) = (L ++ [⟨2, (n : Int), s⟩]) ++ [⟨3, (P.length : Int), ⟨#[]⟩⟩] by simp, sumT_app, sumT_app]
    have := h.txt
    rw [Nat.add_mul]
    show sumT L + s.size + 0 ≤ _
    omega
theorem RS.miss {P : List Int} {ws : List (List UInt8)} {T : List Int} {z i skip : Nat} {L : List Pt} (h : RS P ws T z i skip L) (hP : 0 < P.length) (hi : skip ≤ i) (hl : i < T.length) (hp : ¬ P <+: T.drop i) : RS P ws T z (i + 1) skip (L ++ [⟨1, 1, ⟨#[]⟩⟩]) := by
  have e := h.eq
  have hd : T.drop i = T[i] :: T.drop (i + 1) := List.drop_eq_getElem_cons hl
  rw [show max i skip = i by omega, hd, swA_miss hP (by rw [← hd]; exact hp)] at e
  refine ⟨?_, h.le, ?_, ?_⟩
  · rw [show max (i + 1) skip = i + 1 by omega, ← e, List.filter_append, atomsL_append, one_k 1 (by omega)]
    simp
  · rw [List.length_append]
    have := h.len
    simp
    omega
  · rw [sumT_app]
    have := h.txt
    rw [Nat.add_mul]
    show sumT L + 0 ≤ _
    omega
theorem RS.ends {P : List Int} {ws : List (List UInt8)} {T : List Int} {z skip : Nat} {L : List Pt} (h : RS P ws T z T.length skip L) : atomsL (L.filter fitsB) = swA P ws T := by
  have e := h.eq
  have := h.le
  rw [show max T.length skip = T.length by omega, List.drop_length, swA_nil, List.append_nil] at e
  exact e

end Go.Proofs.YtdnbhomjfgpcfaaDoor
