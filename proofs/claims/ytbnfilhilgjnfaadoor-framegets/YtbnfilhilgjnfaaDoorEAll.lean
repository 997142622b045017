/- Texts and parts of edits: sizes and weights. -/
import Derived.Lib.ValidLaws
import Derived.Lib.TrimUEq
import Derived.Lib.RuneCount
import Derived.Test.YtbnfilhilgjnfaaDoorRows
import Derived.Shelf.Utf8.RuneCount
import Derived.Shelf.Lay
import Derived.Ground.NamesProg
import Derived.Lib.Agree
import Derived.ProofKit
import Derived.WalkKit
import Derived.Handy
import Derived.OpenShut
import Derived.ChangeOld
import Derived.Deep.RegionHeld3
import Derived.Deep.QuietTactic
import Derived.Lib.SmallJoins
import Derived.Shelf.Unicode.ValidAny
import Derived.Deep.AppendLies
import Derived.StillTail
import Derived.Deep.RegionHeld
namespace Go.Proofs.YtbnfilhilgjnfaaDoor.Ed
set_option linter.unusedVariables false
set_option linter.unusedSimpArgs false
open Go.Lib

/-- a code point is read alike whatever stands behind it -/
theorem decN_same {n n' b0 b1 b2 b3 c1 c2 c3 : Nat} (hg : ¬ ((decodeN n b0 b1 b2 b3).1 = 65533 ∧ (decodeN n b0 b1 b2 b3).2 = 1)) (hn : (decodeN n b0 b1 b2 b3).2 ≤ n')
    (h1 : 1 < (decodeN n b0 b1 b2 b3).2 → c1 = b1) (h2 : 2 < (decodeN n b0 b1 b2 b3).2 → c2 = b2) (h3 : 3 < (decodeN n b0 b1 b2 b3).2 → c3 = b3) : decodeN n' b0 c1 c2 c3 = decodeN n b0 b1 b2 b3 := by
  by_cases a0 : b0 < 128
  · simp [decodeN, a0]
  by_cases a1 : b0 / 32 = 6 ∧ (1 < n ∧ b1 / 64 = 2)
  · have e : decodeN n b0 b1 b2 b3 = (if b0 % 32 * 64 + b1 % 64 ≥ 128 then (b0 % 32 * 64 + b1 % 64, 2) else (65533, 1)) := by unfold decodeN; rw [if_neg a0, if_pos a1]
    rw [e] at hg hn h1 h2 h3 ⊢
    by_cases q : b0 % 32 * 64 + b1 % 64 ≥ 128
    · rw [if_pos q] at hn h1 h2 h3 ⊢
      simp only at hn h1
      have := h1 (by decide)
      subst this
      unfold decodeN
      rw [if_neg a0, if_pos ⟨a1.1, by omega, a1.2.2⟩, if_pos q]
    · rw [if_neg q] at hg; simp at hg
  by_cases a2 : b0 / 16 = 14 ∧ (1 < n ∧ b1 / 64 = 2) ∧ (2 < n ∧ b2 / 64 = 2)
  · have e : decodeN n b0 b1 b2 b3 = (if b0 % 16 * 4096 + b1 % 64 * 64 + b2 % 64 ≥ 2048 ∧ (b0 % 16 * 4096 + b1 % 64 * 64 + b2 % 64 < 55296 ∨ (57344 ≤ b0 % 16 * 4096 + b1 % 64 * 64 + b2 % 64 ∧ b0 % 16 * 4096 + b1 % 64 * 64 + b2 % 64 ≤ 1114111)) then (b0 % 16 * 4096 + b1 % 64 * 64 + b2 % 64, 3) else (65533, 1)) := by unfold decodeN; rw [if_neg a0, if_neg a1, if_pos a2]
    rw [e] at hg hn h1 h2 h3 ⊢
    by_cases q : b0 % 16 * 4096 + b1 % 64 * 64 + b2 % 64 ≥ 2048 ∧ (b0 % 16 * 4096 + b1 % 64 * 64 + b2 % 64 < 55296 ∨ (57344 ≤ b0 % 16 * 4096 + b1 % 64 * 64 + b2 % 64 ∧ b0 % 16 * 4096 + b1 % 64 * 64 + b2 % 64 ≤ 1114111))
    · rw [if_pos q] at hn h1 h2 h3 ⊢
      simp only at hn h1 h2
      have e1 := h1 (by decide)
      have e2 := h2 (by decide)
      subst e1 e2
      unfold decodeN
      rw [if_neg a0, if_neg (by omega), if_pos ⟨a2.1, ⟨by omega, a2.2.1.2⟩, by omega, a2.2.2.2⟩, if_pos q]
    · rw [if_neg q] at hg; simp at hg
  by_cases a3 : b0 / 8 = 30 ∧ (1 < n ∧ b1 / 64 = 2) ∧ (2 < n ∧ b2 / 64 = 2) ∧ (3 < n ∧ b3 / 64 = 2)
  · have e : decodeN n b0 b1 b2 b3 = (if b0 % 8 * 262144 + b1 % 64 * 4096 + b2 % 64 * 64 + b3 % 64 ≥ 65536 ∧ (b0 % 8 * 262144 + b1 % 64 * 4096 + b2 % 64 * 64 + b3 % 64 < 55296 ∨ (57344 ≤ b0 % 8 * 262144 + b1 % 64 * 4096 + b2 % 64 * 64 + b3 % 64 ∧ b0 % 8 * 262144 + b1 % 64 * 4096 + b2 % 64 * 64 + b3 % 64 ≤ 1114111)) then (b0 % 8 * 262144 + b1 % 64 * 4096 + b2 % 64 * 64 + b3 % 64, 4) else (65533, 1)) := by unfold decodeN; rw [if_neg a0, if_neg a1, if_neg a2, if_pos a3]
    rw [e] at hg hn h1 h2 h3 ⊢
    by_cases q : b0 % 8 * 262144 + b1 % 64 * 4096 + b2 % 64 * 64 + b3 % 64 ≥ 65536 ∧ (b0 % 8 * 262144 + b1 % 64 * 4096 + b2 % 64 * 64 + b3 % 64 < 55296 ∨ (57344 ≤ b0 % 8 * 262144 + b1 % 64 * 4096 + b2 % 64 * 64 + b3 % 64 ∧ b0 % 8 * 262144 + b1 % 64 * 4096 + b2 % 64 * 64 + b3 % 64 ≤ 1114111))
    · rw [if_pos q] at hn h1 h2 h3 ⊢
      simp only at hn h1 h2 h3
      have e1 := h1 (by decide)
      have e2 := h2 (by decide)
      have e3 := h3 (by decide)
      subst e1 e2 e3
      unfold decodeN
      rw [if_neg a0, if_neg (by omega), if_neg (by omega), if_pos ⟨a3.1, ⟨by omega, a3.2.1.2⟩, ⟨by omega, a3.2.2.1.2⟩, by omega, a3.2.2.2.2⟩, if_pos q]
    · rw [if_neg q] at hg; simp at hg
  · exfalso
    apply hg
    unfold decodeN
    rw [if_neg a0, if_neg a1, if_neg a2, if_neg a3]
    exact ⟨rfl, rfl⟩
theorem decN_width (n b0 b1 b2 b3 : Nat) (hn : 1 ≤ n) : 1 ≤ (decodeN n b0 b1 b2 b3).2 ∧ (decodeN n b0 b1 b2 b3).2 ≤ n := by
  unfold decodeN
  repeat' split
  all_goals simp <;> omega
/-- these bytes are one code point -/
structure Cp (c : List UInt8) : Prop where
  ne : c ≠ []
  ok : ¬ ((decodeL c).1 = 65533 ∧ (decodeL c).2 = 1)
  all : (decodeL c).2 = c.length
theorem dec_width (l : List UInt8) (h : l ≠ []) : 1 ≤ (decodeL l).2 ∧ (decodeL l).2 ≤ l.length := by
  rw [decodeL_N]
  exact decN_width _ _ _ _ _ (List.length_pos_iff.2 h)
theorem dec_same {l m : List UInt8} (hg : ¬ ((decodeL l).1 = 65533 ∧ (decodeL l).2 = 1)) (hne : l ≠ []) (hk : (decodeL l).2 ≤ m.length) (h : m.take (decodeL l).2 = l.take (decodeL l).2) : decodeL m = decodeL l := by
  have hw := dec_width l hne
  have get : ∀ i, i < (decodeL l).2 → m.getD i 0 = l.getD i 0 := by
    intro i hi
    have h1 : (m.take (decodeL l).2)[i]? = (l.take (decodeL l).2)[i]? := by rw [h]
    rw [List.getElem?_take_of_lt hi, List.getElem?_take_of_lt hi] at h1
    simp [List.getD_eq_getElem?_getD, h1]
  have e0 := get 0 (by omega)
  have eq := decodeL_N l
  rw [decodeL_N m, decodeL_N l, e0]
  exact decN_same (by rw [← eq]; exact hg) (by rw [← eq]; exact hk) (fun hi => by rw [get 1 (by rw [eq]; exact hi)]) (fun hi => by rw [get 2 (by rw [eq]; exact hi)]) (fun hi => by rw [get 3 (by rw [eq]; exact hi)])
theorem Cp.front {c : List UInt8} (h : Cp c) (m : List UInt8) : decodeL (c ++ m) = decodeL c := by
  refine dec_same h.ok h.ne ?_ ?_
  · rw [h.all, List.length_append]; omega
  · rw [h.all, List.take_left, List.take_of_length_le (Nat.le_refl _)]
theorem cp_take {l : List UInt8} (hne : l ≠ []) (hg : ¬ ((decodeL l).1 = 65533 ∧ (decodeL l).2 = 1)) : Cp (l.take (decodeL l).2) := by
  have hw := dec_width l hne
  have hlen : (l.take (decodeL l).2).length = (decodeL l).2 := by rw [List.length_take]; omega
  have e : decodeL (l.take (decodeL l).2) = decodeL l := dec_same hg hne (by rw [hlen]; exact Nat.le_refl _) (by rw [List.take_take, Nat.min_self])
  refine ⟨fun h => ?_, by rw [e]; exact hg, by rw [e, hlen]⟩
  rw [h] at hlen
  simp at hlen
  omega
/-- all are code points -/
def Cps (cs : List (List UInt8)) : Prop := ∀ c ∈ cs, Cp c
theorem Cps.nil : Cps [] := fun c h => by cases h
theorem Cps.cons {c : List UInt8} {cs : List (List UInt8)} (h : Cp c) (hs : Cps cs) : Cps (c :: cs) := fun d hd => by
  rcases List.mem_cons.1 hd with rfl | hd
  · exact h
  · exact hs d hd
theorem Cps.tail {c : List UInt8} {cs : List (List UInt8)} (h : Cps (c :: cs)) : Cps cs := fun d hd => h d (List.mem_cons_of_mem _ hd)
theorem Cps.head {c : List UInt8} {cs : List (List UInt8)} (h : Cps (c :: cs)) : Cp c := h c (List.mem_cons_self ..)
theorem Cps.append {cs ds : List (List UInt8)} (h : Cps cs) (k : Cps ds) : Cps (cs ++ ds) := fun d hd => (List.mem_append.1 hd).elim (h d) (k d)
theorem Cps.take {cs : List (List UInt8)} (h : Cps cs) (n : Nat) : Cps (cs.take n) := fun d hd => h d (List.mem_of_mem_take hd)
theorem Cps.drop {cs : List (List UInt8)} (h : Cps cs) (n : Nat) : Cps (cs.drop n) := fun d hd => h d (List.mem_of_mem_drop hd)
theorem flat_valid {cs : List (List UInt8)} (h : Cps cs) : validD cs.flatten = true := by
  induction cs with
  | nil => rfl
  | cons c cs ih =>
    have hc := h.head
    rw [List.flatten_cons, validD_step _ (by simp [hc.ne]), hc.front]
    rw [if_neg hc.ok, hc.all, List.drop_left]
    exact ih h.tail
theorem valid_flat : ∀ (k : Nat) (l : List UInt8), l.length ≤ k → validD l = true → ∃ cs, Cps cs ∧ l = cs.flatten
  | 0, l, hk, _ => by
    obtain rfl : l = [] := List.length_eq_zero_iff.1 (by omega)
    exact ⟨[], Cps.nil, rfl⟩
  | k + 1, l, hk, hv => by
    by_cases hne : l = []
    · subst hne; exact ⟨[], Cps.nil, rfl⟩
    rw [validD_step l hne] at hv
    split at hv
    · cases hv
    · rename_i hg
      have hw := dec_width l hne
      obtain ⟨cs, h1, h2⟩ := valid_flat k (l.drop (decodeL l).2) (by rw [List.length_drop]; omega) hv
      exact ⟨l.take (decodeL l).2 :: cs, Cps.cons (cp_take hne hg) h1, by rw [List.flatten_cons, ← h2, List.take_append_drop]⟩
theorem flat_inj : ∀ {cs ds : List (List UInt8)}, Cps cs → Cps ds → cs.flatten = ds.flatten → cs = ds
  | [], [], _, _, _ => rfl
  | [], d :: ds, _, hd, h => by
    have := hd.head.ne
    rw [List.flatten_nil, List.flatten_cons] at h
    exact absurd (List.append_eq_nil_iff.1 h.symm).1 this
  | c :: cs, [], hc, _, h => by
    have := hc.head.ne
    rw [List.flatten_nil, List.flatten_cons] at h
    exact absurd (List.append_eq_nil_iff.1 h).1 this
  | c :: cs, d :: ds, hc, hd, h => by
    rw [List.flatten_cons, List.flatten_cons] at h
    have e1 := hc.head.front cs.flatten
    have e2 := hd.head.front ds.flatten
    rw [h, e2] at e1
    have hl : c.length = d.length := by rw [← hc.head.all, ← hd.head.all, e1]
    obtain ⟨rfl, h2⟩ := List.append_inj h hl
    rw [flat_inj hc.tail hd.tail h2]
/-- a text is these code points -/
structure Tx (s : ByteArray) (cs : List (List UInt8)) : Prop where
  cps : Cps cs
  eq : s.data.toList = cs.flatten
theorem tx_of_valid {s : ByteArray} (h : validD s.data.toList = true) : ∃ cs, Tx s cs := by
  obtain ⟨cs, h1, h2⟩ := valid_flat _ s.data.toList (Nat.le_refl _) h
  exact ⟨cs, h1, h2⟩
theorem Tx.valid {s : ByteArray} {cs : List (List UInt8)} (h : Tx s cs) : validD s.data.toList = true := by
  rw [h.eq]; exact flat_valid h.cps
theorem Tx.inj {s : ByteArray} {cs ds : List (List UInt8)} (h : Tx s cs) (k : Tx s ds) : cs = ds := flat_inj h.cps k.cps (h.eq.symm.trans k.eq)
theorem Tx.size {s : ByteArray} {cs : List (List UInt8)} (h : Tx s cs) : s.size = cs.flatten.length := by
  rw [← h.eq]; exact size_eq s
theorem count_from (s : ByteArray) : ∀ (ds : List (List UInt8)) (fuel pos : Nat), Cps ds → s.data.toList.drop pos = ds.flatten → ds.flatten.length ≤ fuel → runeCountFrom s fuel pos = ds.length
  | [], fuel, pos, _, h, _ => by
    have hp : ¬ pos < s.size := by
      have := congrArg List.length h
      rw [List.length_drop, ← size_eq] at this
      simp at this
      omega
    rw [runeCountFrom_end s fuel pos hp]
    rfl
  | d :: ds, fuel, pos, hd, h, hf => by
    have hc := hd.head
    have hl := congrArg List.length h
    rw [List.length_drop, ← size_eq, List.flatten_cons, List.length_append] at hl
    rw [List.flatten_cons, List.length_append] at hf
    have hpos : 0 < d.length := List.length_pos_iff.2 hc.ne
    have hp : pos < s.size := by omega
    cases fuel with
    | zero => omega
    | succ fuel =>
      have hdec : (Utf8.decode s pos).2 = d.length := by rw [← decodeL_drop, h, List.flatten_cons, hc.front, hc.all]
      have hdrop : s.data.toList.drop (pos + d.length) = ds.flatten := by
        rw [← List.drop_drop, h, List.flatten_cons, List.drop_left]
      show (if pos < s.size then 1 + runeCountFrom s fuel (pos + (Utf8.decode s pos).2) else 0) = _
      rw [if_pos hp, hdec, count_from s ds fuel (pos + d.length) hd.tail hdrop (by omega), List.length_cons]
      omega
theorem Tx.count {s : ByteArray} {cs : List (List UInt8)} (h : Tx s cs) : runeCount s = cs.length :=
  count_from s cs s.size 0 h.cps (by rw [List.drop_zero]; exact h.eq) (by rw [h.size]; exact Nat.le_refl _)
/-- where the first n code points end -/
def placeOf (cs : List (List UInt8)) (n : Nat) : Nat := (cs.take n).flatten.length
theorem placeOf_zero (cs : List (List UInt8)) : placeOf cs 0 = 0 := by simp [placeOf]
theorem placeOf_le (cs : List (List UInt8)) (n : Nat) : placeOf cs n ≤ cs.flatten.length := by
  unfold placeOf
  have h : cs.flatten = (cs.take n).flatten ++ (cs.drop n).flatten := by rw [← List.flatten_append, List.take_append_drop]
  rw [h, List.length_append]
  omega
theorem drop_place {s : ByteArray} {cs : List (List UInt8)} (h : Tx s cs) (n : Nat) : s.data.toList.drop (placeOf cs n) = (cs.drop n).flatten := by
  have e : cs.flatten = (cs.take n).flatten ++ (cs.drop n).flatten := by rw [← List.flatten_append, List.take_append_drop]
  rw [h.eq, e]
  unfold placeOf
  rw [List.drop_left]
theorem take_place {s : ByteArray} {cs : List (List UInt8)} (h : Tx s cs) (n : Nat) : s.data.toList.take (placeOf cs n) = (cs.take n).flatten := by
  have e : cs.flatten = (cs.take n).flatten ++ (cs.drop n).flatten := by rw [← List.flatten_append, List.take_append_drop]
  rw [h.eq, e]
  unfold placeOf
  rw [List.take_left]
theorem placeOf_next {s : ByteArray} {cs : List (List UInt8)} (h : Tx s cs) {n : Nat} (hn : n < cs.length) : placeOf cs (n + 1) = placeOf cs n + (Utf8.decode s (placeOf cs n)).2 ∧ placeOf cs n < s.size := by
  obtain ⟨c, hc⟩ : ∃ c, cs[n]? = some c := ⟨_, List.getElem?_eq_getElem hn⟩
  have hd := drop_place h n
  have e : cs.drop n = c :: cs.drop (n + 1) := by
    rw [List.drop_eq_getElem_cons hn]
    rw [(List.getElem?_eq_some_iff.1 hc).2]
  have hcp := h.cps c (List.mem_of_getElem? hc)
  have hw : (Utf8.decode s (placeOf cs n)).2 = c.length := by rw [← decodeL_drop, hd, e, List.flatten_cons, hcp.front, hcp.all]
  constructor
  · rw [hw]
    unfold placeOf
    rw [List.take_add_one, hc, List.flatten_append, List.length_append]
    simp
  · have hl := congrArg List.length hd
    rw [List.length_drop, ← size_eq, e, List.flatten_cons, List.length_append] at hl
    have := List.length_pos_iff.2 hcp.ne
    omega
end Go.Proofs.YtbnfilhilgjnfaaDoor.Ed

namespace Go.Proofs.YtbnfilhilgjnfaaDoor.Ed
set_option linter.unusedVariables false
set_option linter.unusedSimpArgs false
open Go.ChangeShapes Go.WideShapes Go.ChangeAt Go.RowKit Go.Joins Go.Shelf

shelf_lay Lays.n195 Nm 195 at Tryd as Tryd.lays195
theorem fCount : Tryd.lays195_ren.f 195 = 66 := by kernel_rfl
theorem counts_any (s : ByteArray) (w : World) (hs : s.size < 9223372036854775807) :
    Calls Tryd.prog 66 #[.string s] w fun e w' => e = .returned (.int .i64 (Lib.runeCount s)) ∧ Below w.heap.size w w' := by
  have h := Any.utf8_RuneCountInString Tryd.lays195 s w hs
  rw [fCount] at h
  refine Calls.mono h ?_
  rintro e w' ⟨rfl, pos, rfl⟩
  exact ⟨rfl, (Below.refl _ _).alloc (Nat.le_refl _) _⟩
end Go.Proofs.YtbnfilhilgjnfaaDoor.Ed

namespace Go.Proofs.YtbnfilhilgjnfaaDoor.Ed
set_option linter.unusedVariables false
set_option linter.unusedSimpArgs false
open Go.ChangeShapes Go.WideShapes Go.ChangeAt Go.RowKit Go.Joins

def Hid (p : Prop) : Prop := p
theorem hide {p : Prop} (h : p) : Hid p := h
theorem unhide {p : Prop} (h : Hid p) : p := h
/-- a part of an edit -/
structure Pt where
  kind : Int
  n : Int
  text : ByteArray
def pv (p : Pt) : Value := .agg #[.int .i64 p.kind, .int .i64 p.n, .string p.text]
def pcs (p : Pt) : List Value := [.int .i64 p.kind, .int .i64 p.n, .string p.text]
/-- these parts lie there -/
def PtsAt (w : World) (a : Option Addr) (l : List Pt) : Prop := l = [] ∨ ∃ b off, a = some ⟨b, off, none⟩ ∧ b < w.heap.size ∧ ∀ (i : Nat) p, l[i]? = some p →
  w.cell? ⟨b, off + i * 3, none⟩ = some (.int .i64 p.kind) ∧ w.cell? ⟨b, off + i * 3 + 1, none⟩ = some (.int .i64 p.n) ∧ w.cell? ⟨b, off + i * 3 + 2, none⟩ = some (.string p.text)
theorem PtsAt.call {w w' : World} {a : Option Addr} {l : List Pt} (h : PtsAt w a l) (hb : Below w.heap.size w w') : PtsAt w' a l := by
  rcases h with h | ⟨b, off, rfl, hlt, hc⟩
  · exact .inl h
  · refine .inr ⟨b, off, rfl, Nat.lt_of_lt_of_le hlt hb.size, fun i k hk => ?_⟩
    obtain ⟨q0, q1, q2⟩ := hc i k hk
    rw [hb.cell (p := ⟨b, _, none⟩) hlt, hb.cell (p := ⟨b, _, none⟩) hlt, hb.cell (p := ⟨b, _, none⟩) hlt]
    exact ⟨q0, q1, q2⟩
theorem PtsAt.at_ {w wr : World} {a : Option Addr} {l : List Pt} (h : PtsAt w a l) (hb : Below w.heap.size w wr) {i : Nat} {p : Pt} (hp : l[i]? = some p) : ∃ b off, a = some ⟨b, off, none⟩ ∧
    wr.cell? ⟨b, off + i * 3, none⟩ = some (.int .i64 p.kind) ∧ wr.cell? ⟨b, off + i * 3 + 1, none⟩ = some (.int .i64 p.n) ∧ wr.cell? ⟨b, off + i * 3 + 2, none⟩ = some (.string p.text) := by
  rcases h.call hb with h0 | ⟨b, off, rfl, hbl, hcs⟩
  · rw [h0] at hp; cases hp
  · exact ⟨b, off, rfl, hcs i p hp⟩
set_option maxRecDepth 100000 in
set_option maxHeartbeats 4000000 in
theorem follows_any (k l : Int) (w : World) : Calls Tryd.prog 49 #[.int .i64 k, .int .i64 l] w fun r w' => r = .returned (.bool (decide (k ≠ l) && !(decide (k = 2) && decide (l = 3)))) ∧ w = w' := by
  by_cases h0 : k = l
  · have hb : (k == l) = true := by simp [h0]
    have hn : (k != l) = false := by simp [h0]
    have hd : decide (k ≠ l) = false := by simp [h0]
    rw [hd]
    clear h0
    go_enter Tryd.func49, Tryd.ntmps49
    go_wp2_with fail
    go_ret
    exact ⟨rfl, rfl⟩
  · have hb : (k == l) = false := by simp [h0]
    have hn : (k != l) = true := by simp [h0]
    have hd : decide (k ≠ l) = true := by simp [h0]
    rw [hd]
    by_cases h2 : k = 2
    · subst h2
      by_cases h3 : l = 3
      · subst h3
        go_enter Tryd.func49, Tryd.ntmps49
        go_wp2_with fail
        go_ret
        exact ⟨rfl, rfl⟩
      · have h3b : (l == 3) = false := by simp [h3]
        have hd3 : decide (l = 3) = false := by simp [h3]
        rw [hd3]
        go_enter Tryd.func49, Tryd.ntmps49
        go_wp2_with fail
        go_ret
        exact ⟨rfl, rfl⟩
    · have h2b : (k == 2) = false := by simp [h2]
      have hd2 : decide (k = 2) = false := by simp [h2]
      rw [hd2]
      go_enter Tryd.func49, Tryd.ntmps49
      go_wp2_with fail
      go_ret
      exact ⟨rfl, rfl⟩
def plusN (a b : Int) : Int := if 9223372036854775807 - b < a then 9223372036854775807 else a + b
set_option maxRecDepth 100000 in
set_option maxHeartbeats 4000000 in
theorem plus_any (a b : Int) (w : World) (ha : 0 ≤ a) (ha2 : a ≤ 9223372036854775807) (hb : 0 ≤ b) (hb2 : b ≤ 9223372036854775807) : Calls Tryd.prog 50 #[.int .i64 a, .int .i64 b] w fun r w' => r = .returned (.int .i64 (plusN a b)) ∧ w = w' := by
  have e1 : wrap64 (9223372036854775807 - b) = 9223372036854775807 - b := by unfold wrap64; omega
  unfold plusN
  by_cases h : 9223372036854775807 - b < a
  · rw [if_pos h]
    go_enter Tryd.func50, Tryd.ntmps50
    go_wp2_with fail
    go_ret
    exact ⟨rfl, rfl⟩
  · rw [if_neg h]
    have h2 : a + b ≤ 9223372036854775807 := by omega
    go_enter Tryd.func50, Tryd.ntmps50
    go_wp2_with fail
    go_ret
    exact ⟨rfl, rfl⟩
end Go.Proofs.YtbnfilhilgjnfaaDoor.Ed

namespace Go.Proofs.YtbnfilhilgjnfaaDoor.Ed
set_option linter.unusedVariables false
set_option linter.unusedSimpArgs false
open Go.ChangeShapes Go.WideShapes Go.ChangeAt Go.RowKit Go.Joins Go.Shelf

shelf_lay Lays.n196 Nm 196 at Tryd as Tryd.lays196
theorem fValid : Tryd.lays196_ren.f 196 = 65 := by kernel_rfl
/-- utf8's tables lie in the world -/
def UT (w : World) : Prop := Lib.Utf8Tabs (Tryd.lays196_ren.g 3) (Tryd.lays196_ren.g 4) w
theorem UT.call {w w' : World} (h : UT w) (hb : Below w.heap.size w w') : UT w' := Utf8Tabs_below h hb
theorem extract_list (s : ByteArray) (a b : Nat) : (s.extract a b).data.toList = (s.data.toList.take b).drop a := by
  rw [ByteArray.data_extract, Array.toList_extract]
  simp [List.extract_eq_take_drop, List.take_drop]
  by_cases h : a ≤ b
  · rw [Nat.add_sub_cancel' h]
  · rw [show a + (b - a) = a by omega, List.drop_eq_nil_of_le (by simp; omega), List.drop_eq_nil_of_le (by simp; omega)]
theorem Tx.front {s : ByteArray} {cs : List (List UInt8)} (h : Tx s cs) (n : Nat) : Tx (s.extract 0 (placeOf cs n)) (cs.take n) :=
  ⟨h.cps.take n, by rw [extract_list, List.drop_zero]; exact take_place h n⟩
theorem Tx.back {s : ByteArray} {cs : List (List UInt8)} (h : Tx s cs) (n : Nat) : Tx (s.extract (placeOf cs n) s.size) (cs.drop n) :=
  ⟨h.cps.drop n, by rw [extract_list, List.take_of_length_le (by rw [← Lib.size_eq]; exact Nat.le_refl _)]; exact drop_place h n⟩
/-- how many code points are cut off -/
def cutK (n : Int) (cs : List (List UInt8)) : Nat := min n.toNat cs.length
end Go.Proofs.YtbnfilhilgjnfaaDoor.Ed

namespace Go.Proofs.YtbnfilhilgjnfaaDoor.Ed
set_option linter.unusedVariables false
set_option linter.unusedSimpArgs false
open Go.ChangeShapes Go.WideShapes Go.ChangeAt Go.RowKit Go.Joins Go.Deep

/-- of the blocks that there were only those of p may have turned -/
structure Only (p : Nat → Prop) (w w' : World) : Prop where
  os : w'.os = w.os
  tape : w'.tape = w.tape
  output : w'.output = w.output
  size : w.heap.size ≤ w'.heap.size
  block : ∀ k, k < w.heap.size → ¬ p k → w'.heap[k]? = w.heap[k]?
theorem Only.refl (p : Nat → Prop) (w : World) : Only p w w := ⟨rfl, rfl, rfl, Nat.le_refl _, fun _ _ _ => rfl⟩
theorem Only.trans {p : Nat → Prop} {a b c : World} (h : Only p a b) (k : Only p b c) : Only p a c :=
  ⟨k.os.trans h.os, k.tape.trans h.tape, k.output.trans h.output, Nat.le_trans h.size k.size, fun i hi hn => (k.block i (Nat.lt_of_lt_of_le hi h.size) hn).trans (h.block i hi hn)⟩
/-- a second step may turn what is new besides -/
theorem Only.next {p q : Nat → Prop} {a b c : World} (h : Only p a b) (k : Only q b c) (hq : ∀ i, q i → p i ∨ a.heap.size ≤ i) : Only p a c :=
  ⟨k.os.trans h.os, k.tape.trans h.tape, k.output.trans h.output, Nat.le_trans h.size k.size, fun i hi hn => (k.block i (Nat.lt_of_lt_of_le hi h.size) (fun hqi => by rcases hq i hqi with h1 | h1; exact hn h1; omega)).trans (h.block i hi hn)⟩
theorem Only.mono {p q : Nat → Prop} {a b : World} (h : Only p a b) (hq : ∀ i, p i → q i) : Only q a b :=
  ⟨h.os, h.tape, h.output, h.size, fun i hi hn => h.block i hi (fun hp => hn (hq i hp))⟩
theorem Only.of_below {p : Nat → Prop} {a b : World} (h : Below a.heap.size a b) : Only p a b := ⟨h.os, h.tape, h.output, h.size, fun i hi _ => h.block i hi⟩
theorem Only.below {p : Nat → Prop} {a b : World} {B : Nat} (h : Only p a b) (hB : B ≤ a.heap.size) (hp : ∀ k, p k → B ≤ k) : Below B a b :=
  ⟨h.os, h.tape, h.output, h.size, fun i hi => h.block i (by omega) (fun hpi => by have := hp i hpi; omega)⟩
theorem Only.set {p : Nat → Prop} {a b : World} (h : Only p a b) (g i : Nat) (v : Value) (hg : p g) : Only p a (b.setCell ⟨g, i, none⟩ v) :=
  h.trans ⟨rfl, rfl, rfl, by simp [World.setCell], fun k hk hn => Below.heap_setCell _ _ _ _ (fun e => hn (e ▸ hg))⟩
theorem Only.drewN {p : Nat → Prop} {a b : World} (h : Only p a b) (d : Nat) : Only p a (b.drewN d) := h.trans (Only.of_below (Joins.below_draws _ _ d))
theorem Only.drew {p : Nat → Prop} {a b : World} (h : Only p a b) : Only p a b.drew := h.trans ⟨rfl, rfl, rfl, Nat.le_refl _, fun _ _ _ => rfl⟩
theorem Only.alloc {p : Nat → Prop} {a b : World} (h : Only p a b) (o : Obj) : Only p a (b.alloc o) := h.trans (Only.of_below ((Below.refl _ _).alloc (Nat.le_refl _) o))
theorem Only.cell {p : Nat → Prop} {a b : World} (h : Only p a b) {q : Addr} {v : Value} (hq : ¬ p q.block) (hv : a.cell? q = some v) : b.cell? q = some v := by
  rw [World.cell?_of_block (w := a) (h.block q.block (World.block_lt_of_cell? _ _ hv) hq)]; exact hv

/-- these cells are a block of their own -/
def RowAt (w : World) (g : Nat) (t : TypeId) (cs : List Value) : Prop := w.heap[g]? = some (.cells cs.toArray t (0, 0))
theorem RowAt.lt {w : World} {g : Nat} {t : TypeId} {cs : List Value} (h : RowAt w g t cs) : g < w.heap.size := by
  rcases Nat.lt_or_ge g w.heap.size with hlt | hge
  · exact hlt
  · rw [RowAt, Array.getElem?_eq_none hge] at h; cases h
theorem RowAt.cell {w : World} {g : Nat} {t : TypeId} {cs : List Value} (h : RowAt w g t cs) (i : Nat) : w.cell? ⟨g, i, none⟩ = cs[i]? := by
  rw [cell_of_row w g i _ t _ h]; simp
theorem RowAt.frozen {w : World} {g : Nat} {t : TypeId} {cs : List Value} (h : RowAt w g t cs) (i : Nat) : w.frozen? ⟨g, i, none⟩ = false := frozen_of_row w g i _ t h
theorem RowAt.set {w : World} {g : Nat} {t : TypeId} {cs : List Value} (h : RowAt w g t cs) (i : Nat) (v : Value) : RowAt (w.setCell ⟨g, i, none⟩ v) g t (cs.set i v) := by
  rw [RowAt, heap_setCell_same w g i _ t v h]; simp
theorem RowAt.drewN {w : World} {g : Nat} {t : TypeId} {cs : List Value} (h : RowAt w g t cs) (n : Nat) : RowAt (w.drewN n) g t cs := by
  have := (Joins.below_draws w.heap.size w n).block g h.lt
  rw [RowAt, this]; exact h
theorem RowAt.drew {w : World} {g : Nat} {t : TypeId} {cs : List Value} (h : RowAt w g t cs) : RowAt w.drew g t cs := h
theorem RowAt.only {p : Nat → Prop} {w w' : World} {g : Nat} {t : TypeId} {cs : List Value} (h : RowAt w g t cs) (ho : Only p w w') (hg : ¬ p g) : RowAt w' g t cs := by
  rw [RowAt, ho.block g h.lt hg]; exact h
theorem RowAt.below {w w' : World} {g B : Nat} {t : TypeId} {cs : List Value} (h : RowAt w g t cs) (hb : Below B w w') (hg : g < B) : RowAt w' g t cs := by
  rw [RowAt, hb.block g hg]; exact h
theorem RowAt.new (w : World) (t : TypeId) (cs : List Value) : RowAt (w.alloc (.cells cs.toArray t)) w.heap.size t cs := heap_alloc_new w _

theorem size_alloc (w : World) (o : Obj) : (w.alloc o).heap.size = w.heap.size + 1 := by simp
theorem info_parts {t : TypeId} {z : Option Value} {s b : Nat} (h : (Tryd.prog.info? t).map (fun i => (i.zero, i.size, i.bytes)) = some (z, s, b)) : ∃ i, Tryd.prog.info? t = some i ∧ i.zero = z ∧ i.size = s ∧ i.bytes = b := by
  obtain ⟨i, hi, h2⟩ := Option.map_eq_some_iff.1 h
  obtain ⟨rfl, rfl, rfl⟩ : i.zero = z ∧ i.size = s ∧ i.bytes = b := by simpa using h2
  exact ⟨i, hi, rfl, rfl, rfl⟩
theorem grown_only {w w' : World} {row : Option Nat} (h : w.grownBy w' row) : Only (fun k => row = some k) w w' := ⟨h.os, h.tape, h.output, h.size, fun k hk hn => h.block k hk (fun e => hn e.symm)⟩
theorem own_only {p : Nat → Prop} {w w' : World} {b s n : Nat} {e : TypeId} {v : Value} {xs : List Value} (h : w.ownsRow b e s v n xs) (ho : Only p w w') (hp : ∀ k, v.ownBlock = some k → ¬ p k) : w'.ownsRow b e s v n xs := by
  obtain ⟨h1, h2⟩ := h
  refine ⟨h1, ?_⟩
  rcases h2 with h2 | ⟨g, cap, cur, e1, e2, e3, e4⟩
  · exact .inl h2
  · have hlt : g < w.heap.size := (Array.getElem?_eq_some_iff.1 e3).1
    exact .inr ⟨g, cap, cur, e1, e2, (ho.block g hlt (hp g (by rw [e1]; rfl))).trans e3, e4⟩
theorem own_call {w w' : World} {b s n : Nat} {e : TypeId} {v : Value} {xs : List Value} (h : w.ownsRow b e s v n xs) (hb : Below w.heap.size w w') : w'.ownsRow b e s v n xs :=
  own_only h (Only.of_below (p := fun _ => False) hb) (fun _ _ h => h)
theorem tag_ne {w : World} {b s n g : Nat} {e t : TypeId} {v : Value} {xs cs : List Value} (h : w.ownsRow b e s v n xs) (hr : RowAt w g t cs) (ht : e ≠ t) : v.ownBlock ≠ some g := by
  intro hk
  rcases h.2 with ⟨rfl, _⟩ | ⟨g', c, cur, rfl, _, e', _⟩
  · cases hk
  obtain rfl : g' = g := by simpa [Value.ownBlock] using hk
  unfold RowAt at hr
  rw [hr] at e'
  simp at e'
  exact ht e'.2.symm
theorem rtag {w : World} {g g' : Nat} {t t' : TypeId} {cs cs' : List Value} (h : RowAt w g t cs) (h' : RowAt w g' t' cs') (hne : t ≠ t') : g ≠ g' := by
  intro e
  subst e
  unfold RowAt at h h'
  rw [h] at h'
  simp at h'
  exact hne h'.2
end Go.Proofs.YtbnfilhilgjnfaaDoor.Ed

namespace Go.Proofs.YtbnfilhilgjnfaaDoor.Ed
set_option linter.unusedVariables false
set_option linter.unusedSimpArgs false

section
variable {P : Program} {ops : Array Oper} {Q : Exit → Act → World → Prop} {md : Region.Mode} {S : World → Prop} {hd : Nat → Bool}

def wpAnyT (P : Program) (md : Region.Mode) (ops : Array Oper) (Q : Exit → Act → World → Prop) (S : World → Prop) (hd : Nat → Bool) : Nat → Array Bool → Act → World → Prop
  | 0, listed, a, w => Region.ready md ops listed = [] ∧ Q .normal a w
  | fuel + 1, listed, a, w =>
    (Region.ready md ops listed = [] → Q .normal a w) ∧
    ∀ i ∈ Region.ready md ops listed, wpOp P ops Q i (fun a' w' => (hd i = true → S w') ∧ wpAnyT P md ops Q S hd fuel (listed.setIfInBounds i true) a' w') a w
theorem wpAny_of_T : ∀ (fuel : Nat) (listed : Array Bool) (a : Act) (w : World), wpAnyT P md ops Q S hd fuel listed a w → wpAny P md ops Q fuel listed a w
  | 0, _, _, _, h => h
  | fuel + 1, _, _, _, h => ⟨h.1, fun i hi => wpOp_mono (fun a' w' h' => wpAny_of_T fuel _ a' w' h'.2) (h.2 i hi)⟩
/-- j waits for i, at once or through another one -/
def waits2 (md : Region.Mode) (ops : Array Oper) (j i : Nat) : Bool := Region.waitsFor md ops j i || (List.range ops.size).any fun k => Region.waitsFor md ops j k && Region.waitsFor md ops k i
/-- what has come up did so behind what it waited for -/
def closedB (md : Region.Mode) (ops : Array Oper) (listed : Array Bool) : Bool := (List.range ops.size).all fun k => !listed.getD k false || (List.range ops.size).all fun i => !Region.waitsFor md ops k i || listed.getD i false
/-- whatever has not come up, and behind which nothing is asked, waits for i -/
def tailWaits (md : Region.Mode) (ops : Array Oper) (hd : Nat → Bool) (listed : Array Bool) (i : Nat) : Bool := (List.range ops.size).all fun j => hd j || listed.getD j true || waits2 md ops j i
theorem waits_lt {j i : Nat} (h : Region.waitsFor md ops j i = true) : j < ops.size := by
  obtain ⟨o, ho, _⟩ := Region.waitsFor_spec h
  rcases Nat.lt_or_ge j ops.size with h' | h'
  · exact h'
  · rw [Array.getElem?_eq_none h'] at ho; cases ho
theorem closed_at {k i : Nat} {listed : Array Bool} (h : closedB md ops listed = true) (hi : i < ops.size) (hk : listed.getD k false = true) (hw : Region.waitsFor md ops k i = true) : listed.getD i false = true := by
  have := List.all_eq_true.1 h k (List.mem_range.2 (waits_lt hw))
  rw [hk] at this
  simp only [Bool.not_true, Bool.false_or] at this
  have := List.all_eq_true.1 this i (List.mem_range.2 hi)
  rw [hw] at this
  simpa using this
theorem getD_set_up {listed : Array Bool} {x j : Nat} (h : listed.getD x false = true) : (listed.setIfInBounds j true).getD x false = true := by
  by_cases hjx : j = x
  · subst hjx
    rcases Nat.lt_or_ge j listed.size with h' | h'
    · simp [h']
    · simp [Array.getElem?_eq_none h'] at h
  · rw [getD_set_ne false hjx]; exact h
theorem waits_listed {j i : Nat} {oj : Oper} {listed : Array Bool} (hj : ops[j]? = some oj) (hall : ∀ e ∈ oj.after, Region.binds md e = true → listed.getD e.on false = true) (hw : Region.waitsFor md ops j i = true) : listed.getD i false = true := by
  obtain ⟨o, ho, e, he, hb, hon⟩ := Region.waitsFor_spec hw
  rw [hj] at ho
  obtain rfl := Option.some.inj ho
  rw [← hon]
  exact hall e he hb
theorem closed_set {j : Nat} {oj : Oper} {listed : Array Bool} (h : closedB md ops listed = true) (hj : ops[j]? = some oj) (hall : ∀ e ∈ oj.after, Region.binds md e = true → listed.getD e.on false = true) : closedB md ops (listed.setIfInBounds j true) = true := by
  refine List.all_eq_true.2 fun k hk => ?_
  cases hl : (listed.setIfInBounds j true).getD k false with
  | false => rfl
  | true =>
    simp only [Bool.not_true, Bool.false_or]
    refine List.all_eq_true.2 fun i hi => ?_
    cases hw : Region.waitsFor md ops k i with
    | false => rfl
    | true =>
      simp only [Bool.not_true, Bool.false_or]
      refine getD_set_up ?_
      by_cases hjk : j = k
      · subst hjk; exact waits_listed hj hall hw
      · rw [getD_set_ne false hjk] at hl
        exact closed_at h (List.mem_range.1 hi) hl hw
theorem tailWaits_hd {i j : Nat} {oj : Oper} {listed : Array Bool} (hc : closedB md ops listed = true) (h : tailWaits md ops hd listed i = true) (hj : ops[j]? = some oj) (hun : listed.getD j true = false) (hall : ∀ e ∈ oj.after, Region.binds md e = true → listed.getD e.on false = true) (hii : i < ops.size) (hi : listed.getD i false = false) : hd j = true := by
  have hlt : j < ops.size := by
    rcases Nat.lt_or_ge j ops.size with h' | h'
    · exact h'
    · rw [Array.getElem?_eq_none h'] at hj; cases hj
  have := List.all_eq_true.1 h j (List.mem_range.2 hlt)
  simp only [Bool.or_eq_true, hun, Bool.false_eq_true, or_false] at this
  rcases this with this | this
  · exact this
  · exfalso
    simp only [waits2, Bool.or_eq_true, List.any_eq_true, Bool.and_eq_true] at this
    rcases this with this | ⟨k, hk, h1, h2⟩
    · rw [waits_listed hj hall this] at hi; cases hi
    · rw [closed_at hc hii (waits_listed hj hall h1) h2] at hi; cases hi
theorem tailWaits_set {i j : Nat} {listed : Array Bool} (h : tailWaits md ops hd listed i = true) : tailWaits md ops hd (listed.setIfInBounds j true) i = true := by
  refine List.all_eq_true.2 fun k hk => ?_
  have := List.all_eq_true.1 h k hk
  simp only [Bool.or_eq_true] at this ⊢
  rcases this with (h1 | h1) | h1
  · exact .inl (.inl h1)
  · refine .inl (.inr ?_)
    by_cases hjk : j = k
    · subst hjk
      rcases Nat.lt_or_ge j listed.size with h' | h'
      · simp [h']
      · simp [Array.getElem?_eq_none h', h']
    · rw [getD_set_ne true hjk]; exact h1
  · exact .inr h1
theorem ready_no {i : Nat} {oj : Oper} {listed : Array Bool} (hr : i ∈ Region.ready md ops listed) (hall : ∀ e ∈ oj.after, Region.binds md e = true → listed.getD e.on false = true) : ∀ e ∈ oj.after, Region.binds md e = true → e.on ≠ i := by
  intro d hd hb heq
  have g1 := hall d hd hb
  have g0 := (mem_ready.1 hr).1
  rw [heq] at g1
  rcases Nat.lt_or_ge i listed.size with h' | h'
  · simp [h'] at g0 g1; rw [g0] at g1; cases g1
  · simp [Array.getElem?_eq_none h'] at g1
/-- taken first: what yields under S, if all else waits for it or keeps S -/
theorem wpAnyT_first {i : Nat} {oi : Oper} {v : Value} (S' : World → Prop) (hi : ops[i]? = some oi) (hsel : ∀ (j : Nat) (o : Oper) cs b, ops[j]? = some o → o.op ≠ .select cs b)
    (hQ : ∀ c a w, Q (.panic c) (a.put oi.dst v) w → Q (.panic c) a w) :
    ∀ (fuel : Nat) (listed : Array Bool) (a : Act) (w : World), ((∀ w, S w → S' w) ∧ tailWaits md ops hd listed i = true ∧ closedB md ops listed = true ∨ (∀ w, S' w) ∧ hd i = false) →
      (∀ j oj, ops[j]? = some oj → j ≠ i → listed.getD j true = false → (∀ e ∈ oj.after, Region.binds md e = true → e.on ≠ i) → oi.apart ops oj = true) →
      i ∈ Region.ready md ops listed → YieldsIf P ops S' oi v a → (hd i = true → S w) → S' w →
      wpAnyT P md ops Q S hd fuel (listed.setIfInBounds i true) (a.put oi.dst v) w → wpAnyT P md ops Q S hd (fuel + 1) listed a w := by
  intro fuel
  induction fuel with
  | zero =>
    intro listed a w _ _ hr hy hS hS' H
    refine ⟨fun h => (by rw [h] at hr; cases hr), fun j hj => ?_⟩
    by_cases e : j = i
    · subst e; exact hy.wpOp hi hS' ⟨hS, H⟩
    · have hx := ready_mono hj e
      rw [H.1] at hx
      cases hx
  | succ fuel ih =>
    intro listed a w hT hap hr hy hS hS' H
    refine ⟨fun h => (by rw [h] at hr; cases hr), fun j hj => ?_⟩
    by_cases e : j = i
    · subst e; exact hy.wpOp hi hS' ⟨hS, H⟩
    · obtain ⟨un, oj, hoj, hall⟩ := mem_ready.1 hj
      have hno := ready_no hr hall
      have step := wpOp_putIf hoj (hap j oj hoj e un hno) (fun cs b => hsel i oi cs b hi) (fun cs b => hsel j oj cs b hoj) hQ hy (H.2 j (ready_mono hj e))
      have hap' : ∀ k ok, ops[k]? = some ok → k ≠ i → (listed.setIfInBounds j true).getD k true = false → (∀ e ∈ ok.after, Region.binds md e = true → e.on ≠ i) → oi.apart ops ok = true := by
        intro k ok hk hki hun hno'
        refine hap k ok hk hki ?_ hno'
        by_cases hjk : j = k
        · subst hjk; exact un
        · rw [getD_set_ne true hjk] at hun; exact hun
      refine wpOp_mono (fun a' w' g => ⟨g.2.1, ?_⟩) step
      have H' := g.2.2
      rw [← Array.setIfInBounds_comm _ _ e] at H'
      rcases hT with ⟨h1, h2, h3⟩ | ⟨h1, h2⟩
      · have hs := g.2.1 (tailWaits_hd h3 h2 hoj un hall (by
          rcases Nat.lt_or_ge i ops.size with h' | h'
          · exact h'
          · rw [Array.getElem?_eq_none h'] at hi; cases hi) (getD_both (mem_ready.1 hr).1))
        exact ih _ a' w' (.inl ⟨h1, tailWaits_set h2, closed_set h3 hoj hall⟩) hap' (ready_mono hr (Ne.symm e)) g.1 (fun _ => hs) (h1 _ hs) H'
      · exact ih _ a' w' (.inr ⟨h1, h2⟩) hap' (ready_mono hr (Ne.symm e)) g.1 (fun h => by rw [h2] at h; cases h) (h1 _) H'
theorem wpAnyT_take {i : Nat} {oi : Oper} {v : Value} {fuel : Nat} {listed : Array Bool} {a : Act} {w : World} (hi : ops[i]? = some oi)
    (hs : Region.noSelect ops = true) (hf : Region.free md ops listed i = true) (hr : (Region.ready md ops listed).contains i = true) (hT : (tailWaits md ops hd listed i && closedB md ops listed) = true)
    (hQ : ∀ c a w, Q (.panic c) (a.put oi.dst v) w → Q (.panic c) a w) (hy : YieldsIf P ops S oi v a) (hS : S w)
    (h : wpAnyT P md ops Q S hd fuel (listed.setIfInBounds i true) (a.put oi.dst v) w) : wpAnyT P md ops Q S hd (fuel + 1) listed a w :=
  wpAnyT_first S hi (Region.noSelect_spec hs) hQ fuel listed a w (.inl ⟨fun _ h => h, (Bool.and_eq_true _ _ ▸ hT).1, (Bool.and_eq_true _ _ ▸ hT).2⟩) (Region.free_spec hi hf) (by simpa using hr) hy (fun _ => hS) hS h
/-- what yields whatever the world -/
theorem wpAnyT_pure {i : Nat} {oi : Oper} {v : Value} {fuel : Nat} {listed : Array Bool} {a : Act} {w : World} (hi : ops[i]? = some oi)
    (hs : Region.noSelect ops = true) (hf : Region.free md ops listed i = true) (hr : (Region.ready md ops listed).contains i = true) (hT : hd i = false)
    (hQ : ∀ c a w, Q (.panic c) (a.put oi.dst v) w → Q (.panic c) a w) (hy : YieldsIf P ops (fun _ => True) oi v a)
    (h : wpAnyT P md ops Q S hd fuel (listed.setIfInBounds i true) (a.put oi.dst v) w) : wpAnyT P md ops Q S hd (fuel + 1) listed a w :=
  wpAnyT_first (fun _ => True) hi (Region.noSelect_spec hs) hQ fuel listed a w (.inr ⟨fun _ => trivial, hT⟩) (Region.free_spec hi hf) (by simpa using hr) hy (fun h => by rw [hT] at h; cases h) trivial h
/-- what alone may come up -/
theorem wpAnyT_one {i : Nat} {o : Oper} {fuel : Nat} {listed : Array Bool} {a : Act} {w : World} (hr : Region.ready md ops listed = [i]) (ho : ops[i]? = some o)
    (h : ∀ K' : Act → World → Prop, Shut (∀ a w, (hd i = true → S w) → wpAnyT P md ops Q S hd fuel (listed.setIfInBounds i true) a w → K' a w) → if Region.wanted o (yielded ops a.tmps) = true then Oper.wp P o a w K' Q else K' (a.put o.dst undef) w) :
    wpAnyT P md ops Q S hd (fuel + 1) listed a w := by
  refine ⟨fun h0 => absurd (hr ▸ h0) (by simp), fun j hj => ?_⟩
  rw [hr] at hj
  obtain rfl := List.mem_singleton.1 hj
  exact wpOp_step ho (fun K' hK => h K' (fun a w hS hW => hK a w ⟨hS, hW⟩))
theorem wpAnyT_done {listed : Array Bool} {a : Act} {w : World} (hr : Region.ready md ops listed = []) (h : Q .normal a w) : ∀ fuel, wpAnyT P md ops Q S hd fuel listed a w
  | 0 => ⟨hr, h⟩
  | _ + 1 => ⟨fun _ => h, by rw [hr]; simp⟩
theorem wp_region_T {id : Nat} {a : Act} {w : World} (hd : Nat → Bool) (hm : P.follows .mixedOrders = true) (hS : S w.drew)
    (h : S w.drew → wpAnyT P .any ops Q S hd ops.size (Array.replicate ops.size false) a w.drew) : (Code.region id ops true).wp P Q a w :=
  wp_region_any hm (wpAny_of_T _ _ _ _ (h hS))
end
end Go.Proofs.YtbnfilhilgjnfaaDoor.Ed

namespace Go.Proofs.YtbnfilhilgjnfaaDoor.Ed
set_option linter.unusedVariables false
set_option linter.unusedSimpArgs false
open Go.ChangeShapes Go.WideShapes Go.ChangeAt Go.RowKit Go.Joins Go.Deep Go.Shelf

theorem valid_any (s : ByteArray) (w : World) (hT : UT w) (hs : s.size ≤ 9223372036854775807) : Calls Tryd.prog 65 #[.string s] w fun e w' => e = .returned (.bool (Lib.validD s.data.toList)) ∧ Below w.heap.size w w' := by
  have h := Any.utf8_ValidString Tryd.lays196 s w hs hT
  rw [fValid] at h
  exact h
def fitsB (p : Pt) : Bool := decide (1 ≤ p.n) && decide (p.n ≤ 1099511627776) && ((decide (p.kind = 1) || decide (p.kind = 3)) && decide (p.text.size = 0) || decide (p.kind = 2) && (Lib.validD p.text.data.toList && decide ((Lib.runeCount p.text : Int) = p.n)))
theorem toList_empty (s : ByteArray) : s.toList.isEmpty = decide (s.size = 0) := by
  rw [ByteArray.toList_eq, Lib.size_eq]
  cases s.data.toList <;> rfl
set_option maxRecDepth 100000 in
set_option maxHeartbeats 4000000 in
theorem fits_any (p : Pt) (w : World) (hT : UT w) (hs : p.text.size ≤ 281474976710656) : Calls Tryd.prog 48 #[pv p] w fun r w' => r = .returned (.bool (fitsB p)) ∧ Below w.heap.size w w' := by
  obtain ⟨k, n, s⟩ := p
  have hb : Below w.heap.size w (w.alloc (.cells #[.int .i64 k, .int .i64 n, .string s] 44)) := (Below.refl _ _).alloc (Nat.le_refl _) _
  have HT := hide (hT.call hb)
  have HB := hide hb
  have hrow := RowAt.new w 44 [.int .i64 k, .int .i64 n, .string s]
  simp only at hs
  have HSB := hide hs
  clear hT hb hs
  unfold pv fitsB
  simp only
  by_cases h1 : n < 1
  · have hd : decide (1 ≤ n) = false := by simp; omega
    rw [hd]
    simp only [Bool.false_and]
    go_enter Tryd.func48, Tryd.ntmps48
    go_wp2_with fail
    go_ret
    exact ⟨rfl, unhide HB⟩
  have hd1 : decide (1 ≤ n) = true := by simp; omega
  rw [hd1]
  by_cases h2 : 1099511627776 < n
  · have hd : decide (n ≤ 1099511627776) = false := by simp; omega
    rw [hd]
    simp only [Bool.false_and, Bool.and_false]
    go_enter Tryd.func48, Tryd.ntmps48
    go_wp2_with fail
    go_ret
    exact ⟨rfl, unhide HB⟩
  have hd2 : decide (n ≤ 1099511627776) = true := by simp; omega
  rw [hd2]
  simp only [Bool.true_and]
  clear hd1 hd2
  by_cases k1 : k = 1
  · subst k1
    obtain ⟨q, hq⟩ : ∃ q, decide (s.size = 0) = q := ⟨_, rfl⟩
    have he := toList_empty s
    rw [hq] at he
    simp only [decide_true, Bool.true_or, Bool.true_and, show decide ((1 : Int) = 2) = false from rfl, Bool.false_and, Bool.or_false, hq]
    clear hq
    go_enter Tryd.func48, Tryd.ntmps48
    go_wp2_with fail
    go_ret
    exact ⟨by simp [he], unhide HB⟩
  by_cases k3 : k = 3
  · subst k3
    obtain ⟨q, hq⟩ : ∃ q, decide (s.size = 0) = q := ⟨_, rfl⟩
    have he := toList_empty s
    rw [hq] at he
    simp only [decide_true, Bool.or_true, Bool.true_and, show decide ((3 : Int) = 2) = false from rfl, Bool.false_and, Bool.or_false, hq]
    clear hq
    go_enter Tryd.func48, Tryd.ntmps48
    go_wp2_with fail
    go_ret
    exact ⟨by simp [he], unhide HB⟩
  by_cases k2 : k = 2
  · subst k2
    obtain ⟨q, hq⟩ : ∃ q, Lib.validD s.data.toList = q := ⟨_, rfl⟩
    obtain ⟨m, hm⟩ : ∃ m, Lib.runeCount s = m := ⟨_, rfl⟩
    simp only [show decide ((2 : Int) = 1) = false from rfl, show decide ((2 : Int) = 3) = false from rfl, Bool.or_self, Bool.false_and, Bool.false_or, decide_true, Bool.true_and, hq, hm]
    have HRW := hide hrow
    have HS : Hid (∀ W, Below (w.alloc (.cells #[.int .i64 2, .int .i64 n, .string s] 44)).heap.size (w.alloc (.cells #[.int .i64 2, .int .i64 n, .string s] 44)) W → (W.cell? ⟨w.heap.size, 1, none⟩ = some (.int .i64 n) ∧ W.cell? ⟨w.heap.size, 2, none⟩ = some (.string s))) := hide (fun W hW => ⟨((unhide HRW).below hW (unhide HRW).lt).cell 1, ((unhide HRW).below hW (unhide HRW).lt).cell 2⟩)
    have HCN : Hid (∀ W, Calls Tryd.prog 66 #[.string s] W fun e w' => e = .returned (.int .i64 (m : Int)) ∧ Below W.heap.size W w') := hide (fun W => by have h := counts_any s W (by have := unhide HSB; omega); rw [hm] at h; exact h)
    have HV : Hid (∀ W, Below (w.alloc (.cells #[.int .i64 2, .int .i64 n, .string s] 44)).heap.size (w.alloc (.cells #[.int .i64 2, .int .i64 n, .string s] 44)) W → Calls Tryd.prog 65 #[.string s] W fun e w' => e = .returned (.bool q) ∧ Below W.heap.size W w') := hide (fun W hW => by have h := valid_any s W ((unhide HT).call hW) (by have := unhide HSB; omega); rw [hq] at h; exact h)
    clear hrow hq hm
    cases q with
    | false =>
      simp only [Bool.false_and]
      go_enter Tryd.func48, Tryd.ntmps48
      go_wp2_with fail
      obtain ⟨wA, hA⟩ : ∃ wA, (w.alloc (.cells #[.int .i64 2, .int .i64 n, .string s] 44)) = wA := ⟨_, rfl⟩
      rw [hA] at HS HV HB ⊢
      clear hA HRW HT
      have k0 : Below wA.heap.size wA wA.drew := (Below.refl _ _).drew
      refine wp_region_T (S := fun W => (W.cell? ⟨w.heap.size, 1, none⟩ = some (.int .i64 n) ∧ W.cell? ⟨w.heap.size, 2, none⟩ = some (.string s))) (fun i => decide (i < 12)) (by kernel_rfl) (unhide HS _ k0) (fun hHeld => ?_)
      refine wpAnyT_take (i := 0) (oi := { dst := some 21, op := Op.fieldAddr 44 (Operand.tmp 1) 2, type := 0, pos := "edit.go:49", after := #[], guard := none }) (v := .pointer (some ⟨w.heap.size, 2, none⟩)) rfl (by kernel_rfl) (by kernel_rfl) (by kernel_rfl) (by kernel_rfl) (fun _ _ _ h => h) (Or.inl ⟨by rfl, ?_⟩) hHeld ?_
      · intro w hSw
        obtain ⟨h3, h4⟩ := hSw
        first
          | rfl
          | (go_simp; done)
      try simp only [Act.put, List.setIfInBounds_toArray, List.set_cons_zero, List.set_cons_succ]
      refine wpAnyT_take (i := 1) (oi := { dst := some 22, op := Op.load 9 (Operand.tmp 21), type := 9, pos := "edit.go:49", after := #[{ on := 0, ground := Ground.data }], guard := none }) (v := .string s) rfl (by kernel_rfl) (by kernel_rfl) (by kernel_rfl) (by kernel_rfl) (fun _ _ _ h => h) (Or.inl ⟨by rfl, ?_⟩) hHeld ?_
      · intro w hSw
        obtain ⟨h3, h4⟩ := hSw
        first
          | rfl
          | (go_simp; done)
      try simp only [Act.put, List.setIfInBounds_toArray, List.set_cons_zero, List.set_cons_succ]
      refine wpAnyT_one (i := 2) (o := { dst := some 23, op := Op.call { callee := Callee.value (Operand.func 65), args := #[Operand.tmp 22], argTypes := #[9] }, type := 4, pos := "edit.go:49", after := #[{ on := 1, ground := Ground.data }], guard := none }) (by kernel_rfl) rfl (fun K hK => ?_)
      go_simp
      refine Calls.mono (unhide HV wA.drew k0) ?_
      rintro r w2 ⟨rfl, b2⟩
      have k2 : Below wA.heap.size wA w2 := k0.trans (b2.mono k0.size)
      have HK2 := hide k2
      go_wp2_with fail
      refine hK.out _ _ (fun _ => unhide HS _ (unhide HK2)) ?_
      clear hK K k2 b2 k0
      try simp only [Act.put, List.setIfInBounds_toArray, List.set_cons_zero, List.set_cons_succ]
      refine wpAnyT_take (i := 3) (oi := { dst := some 24, op := Op.move (Operand.tmp 23), type := 4, pos := "edit.go:49", after := #[{ on := 2, ground := Ground.data }, { on := 2, ground := Ground.chain }], guard := none }) (v := .bool false) rfl (by kernel_rfl) (by kernel_rfl) (by kernel_rfl) (by kernel_rfl) (fun _ _ _ h => h) (Or.inl ⟨by rfl, ?_⟩) (unhide HS _ (unhide HK2)) ?_
      · intro w hSw
        obtain ⟨h3, h4⟩ := hSw
        first
          | rfl
          | (go_simp; done)
      try simp only [Act.put, List.setIfInBounds_toArray, List.set_cons_zero, List.set_cons_succ]
      refine wpAnyT_take (i := 4) (oi := { dst := some 25, op := Op.fieldAddr 44 (Operand.tmp 1) 2, type := 0, pos := "edit.go:49", after := #[{ on := 3, ground := Ground.guard }], guard := some (3, true) }) (v := undef) rfl (by kernel_rfl) (by kernel_rfl) (by kernel_rfl) (by kernel_rfl) (fun _ _ _ h => h) (Or.inr ⟨by rfl, rfl⟩) (unhide HS _ (unhide HK2)) ?_
      try simp only [Act.put, List.setIfInBounds_toArray, List.set_cons_zero, List.set_cons_succ]
      refine wpAnyT_take (i := 5) (oi := { dst := some 26, op := Op.load 9 (Operand.tmp 25), type := 9, pos := "edit.go:49", after := #[{ on := 4, ground := Ground.data }, { on := 3, ground := Ground.guard }], guard := some (3, true) }) (v := undef) rfl (by kernel_rfl) (by kernel_rfl) (by kernel_rfl) (by kernel_rfl) (fun _ _ _ h => h) (Or.inr ⟨by rfl, rfl⟩) (unhide HS _ (unhide HK2)) ?_
      try simp only [Act.put, List.setIfInBounds_toArray, List.set_cons_zero, List.set_cons_succ]
      refine wpAnyT_take (i := 6) (oi := { dst := some 27, op := Op.call { callee := Callee.value (Operand.func 66), args := #[Operand.tmp 26], argTypes := #[9] }, type := 3, pos := "edit.go:49", after := #[{ on := 5, ground := Ground.data }, { on := 3, ground := Ground.chain }, { on := 3, ground := Ground.guard }], guard := some (3, true) }) (v := undef) rfl (by kernel_rfl) (by kernel_rfl) (by kernel_rfl) (by kernel_rfl) (fun _ _ _ h => h) (Or.inr ⟨by rfl, rfl⟩) (unhide HS _ (unhide HK2)) ?_
      try simp only [Act.put, List.setIfInBounds_toArray, List.set_cons_zero, List.set_cons_succ]
      refine wpAnyT_take (i := 7) (oi := { dst := some 28, op := Op.fieldAddr 44 (Operand.tmp 1) 1, type := 0, pos := "edit.go:49", after := #[{ on := 3, ground := Ground.guard }], guard := some (3, true) }) (v := undef) rfl (by kernel_rfl) (by kernel_rfl) (by kernel_rfl) (by kernel_rfl) (fun _ _ _ h => h) (Or.inr ⟨by rfl, rfl⟩) (unhide HS _ (unhide HK2)) ?_
      try simp only [Act.put, List.setIfInBounds_toArray, List.set_cons_zero, List.set_cons_succ]
      refine wpAnyT_take (i := 8) (oi := { dst := some 29, op := Op.load 3 (Operand.tmp 28), type := 3, pos := "edit.go:49", after := #[{ on := 7, ground := Ground.data }, { on := 3, ground := Ground.guard }], guard := some (3, true) }) (v := undef) rfl (by kernel_rfl) (by kernel_rfl) (by kernel_rfl) (by kernel_rfl) (fun _ _ _ h => h) (Or.inr ⟨by rfl, rfl⟩) (unhide HS _ (unhide HK2)) ?_
      try simp only [Act.put, List.setIfInBounds_toArray, List.set_cons_zero, List.set_cons_succ]
      refine wpAnyT_take (i := 9) (oi := { dst := some 30, op := Op.binOp BinOp.eql 3 (Operand.tmp 27) (Operand.tmp 29) 3, type := 4, pos := "edit.go:49", after := #[{ on := 6, ground := Ground.data }, { on := 8, ground := Ground.data }, { on := 3, ground := Ground.guard }], guard := some (3, true) }) (v := undef) rfl (by kernel_rfl) (by kernel_rfl) (by kernel_rfl) (by kernel_rfl) (fun _ _ _ h => h) (Or.inr ⟨by rfl, rfl⟩) (unhide HS _ (unhide HK2)) ?_
      try simp only [Act.put, List.setIfInBounds_toArray, List.set_cons_zero, List.set_cons_succ]
      refine wpAnyT_take (i := 10) (oi := { dst := some 31, op := Op.pick (Operand.tmp 24) (Operand.tmp 30) (Operand.const (Value.bool false)), type := 4, pos := "edit.go:49", after := #[{ on := 3, ground := Ground.data }, { on := 9, ground := Ground.data }], guard := none }) (v := .bool false) rfl (by kernel_rfl) (by kernel_rfl) (by kernel_rfl) (by kernel_rfl) (fun _ _ _ h => h) (Or.inl ⟨by rfl, ?_⟩) (unhide HS _ (unhide HK2)) ?_
      · intro w hSw
        obtain ⟨h3, h4⟩ := hSw
        first
          | rfl
          | (go_simp; done)
      try simp only [Act.put, List.setIfInBounds_toArray, List.set_cons_zero, List.set_cons_succ]
      refine wpAnyT_take (i := 11) (oi := { dst := some 2, op := Op.assign (Operand.tmp 31), type := 4, pos := "edit.go:49", after := #[{ on := 10, ground := Ground.data }, { on := 6, ground := Ground.chain }, { on := 0, ground := Ground.phase }, { on := 1, ground := Ground.phase }, { on := 2, ground := Ground.phase }, { on := 3, ground := Ground.phase }, { on := 4, ground := Ground.phase }, { on := 5, ground := Ground.phase }, { on := 6, ground := Ground.phase }, { on := 7, ground := Ground.phase }, { on := 8, ground := Ground.phase }, { on := 9, ground := Ground.phase }, { on := 10, ground := Ground.phase }], guard := none }) (v := .bool false) rfl (by kernel_rfl) (by kernel_rfl) (by kernel_rfl) (by kernel_rfl) (fun _ _ _ h => h) (Or.inl ⟨by rfl, ?_⟩) (unhide HS _ (unhide HK2)) ?_
      · intro w hSw
        obtain ⟨h3, h4⟩ := hSw
        first
          | rfl
          | (go_simp; done)
      try simp only [Act.put, List.setIfInBounds_toArray, List.set_cons_zero, List.set_cons_succ]
      refine wpAnyT_done (by kernel_rfl) ?_ _
      go_wp2_with fail
      go_ret
      exact ⟨rfl, (unhide HB).trans ((unhide HK2).mono (unhide HB).size)⟩
    | true =>
      simp only [Bool.true_and]
      go_enter Tryd.func48, Tryd.ntmps48
      go_wp2_with fail
      obtain ⟨wA, hA⟩ : ∃ wA, (w.alloc (.cells #[.int .i64 2, .int .i64 n, .string s] 44)) = wA := ⟨_, rfl⟩
      rw [hA] at HS HV HB ⊢
      clear hA HRW HT
      have k0 : Below wA.heap.size wA wA.drew := (Below.refl _ _).drew
      go_region_held3 (fun W => (W.cell? ⟨w.heap.size, 1, none⟩ = some (.int .i64 n) ∧ W.cell? ⟨w.heap.size, 2, none⟩ = some (.string s)))
        (first | exact unhide HS _ k0 | exact unhide HS _ k3 | exact unhide HS _ k2)
        (first | (go_at_call 65; refine Calls.mono (unhide HV wA.drew k0) ?_; rintro e w2 ⟨rfl, b2⟩; have k2 : Below wA.heap.size wA w2 := k0.trans (b2.mono k0.size)) | (go_at_call 66; refine Calls.mono (unhide HCN w2) ?_; rintro e w3 ⟨rfl, b3⟩; have k3 : Below wA.heap.size wA w3 := k2.trans (b3.mono k2.size)))
      have HB3 := hide ((unhide HB).trans (k3.mono (unhide HB).size))
      clear k0 k2 k3 b2 b3 HS HV HCN
      go_wp2_with fail
      go_ret
      refine ⟨?_, unhide HB3⟩
      show Ending.returned (Value.bool ((m : Int) == n)) = _
      congr 2
  · have d1 : decide (k = 1) = false := by simp [k1]
    have d2 : decide (k = 2) = false := by simp [k2]
    have d3 : decide (k = 3) = false := by simp [k3]
    have e1 : (k == 1) = false := by simp [k1]
    have e2 : (k == 2) = false := by simp [k2]
    have e3 : (k == 3) = false := by simp [k3]
    rw [d1, d2, d3]
    simp only [Bool.or_self, Bool.false_and]
    clear hrow
    go_enter Tryd.func48, Tryd.ntmps48
    go_wp2_with fail
    go_ret
    exact ⟨rfl, unhide HB⟩
end Go.Proofs.YtbnfilhilgjnfaaDoor.Ed

namespace Go.Proofs.YtbnfilhilgjnfaaDoor.Ed
set_option linter.unusedVariables false
set_option linter.unusedSimpArgs false
open Go.ChangeShapes Go.WideShapes Go.ChangeAt Go.RowKit Go.Joins Go.Deep

def followsB (k l : Int) : Bool := decide (k ≠ l) && !(decide (k = 2) && decide (l = 3))
/-- from, to, the last part's kind: of the parts so far; none: they are no edit -/
def sizeStep (st : Option (Int × Int × Int)) (p : Pt) : Option (Int × Int × Int) := match st with
  | none => none
  | some (f, t, k) =>
    if fitsB p = true ∧ followsB p.kind k = true then
      (let f' := if p.kind = 2 then f else f + p.n
       let t' := if p.kind = 3 then t else t + p.n
       if 1099511627776 < f' ∨ 1099511627776 < t' then none else some (f', t', p.kind))
    else none
def sizeL (l : List Pt) : Option (Int × Int × Int) := l.foldl sizeStep (some (0, 0, 0))
theorem sizeL_take {l : List Pt} {i : Nat} {p : Pt} (h : l[i]? = some p) : sizeL (l.take (i + 1)) = sizeStep (sizeL (l.take i)) p := by
  unfold sizeL
  rw [List.take_add_one, h, List.foldl_append]
  rfl
theorem sizeL_none {l : List Pt} {i : Nat} (h : sizeL (l.take i) = none) : sizeL l = none := by
  have e : l = l.take i ++ l.drop i := (List.take_append_drop i l).symm
  have : ∀ (m : List Pt), m.foldl sizeStep none = none := by
    intro m
    induction m with
    | nil => rfl
    | cons p m ih => exact ih
  unfold sizeL at h ⊢
  rw [e, List.foldl_append, h, this]
theorem fits_bounds {p : Pt} (h : fitsB p = true) : 1 ≤ p.n ∧ p.n ≤ 1099511627776 := by
  unfold fitsB at h
  simp only [Bool.and_eq_true, decide_eq_true_eq] at h
  exact ⟨h.1.1, h.1.2⟩
theorem sizeL_bounds (l : List Pt) : ∀ f t k, sizeL l = some (f, t, k) → 0 ≤ f ∧ f ≤ 1099511627776 ∧ 0 ≤ t ∧ t ≤ 1099511627776 := by
  have : ∀ (m : List Pt) (st : Option (Int × Int × Int)), (∀ f t k, st = some (f, t, k) → 0 ≤ f ∧ f ≤ 1099511627776 ∧ 0 ≤ t ∧ t ≤ 1099511627776) → ∀ f t k, m.foldl sizeStep st = some (f, t, k) → 0 ≤ f ∧ f ≤ 1099511627776 ∧ 0 ≤ t ∧ t ≤ 1099511627776 := by
    intro m
    induction m with
    | nil => intro st h; exact h
    | cons p m ih =>
      intro st h
      refine ih _ ?_
      intro f t k e
      match st, h with
      | none, _ => cases e
      | some (f0, t0, k0), h =>
        obtain ⟨a1, a2, a3, a4⟩ := h f0 t0 k0 rfl
        simp only [sizeStep] at e
        by_cases hfit : fitsB p = true ∧ followsB p.kind k0 = true
        · rw [if_pos hfit] at e
          have hb := fits_bounds hfit.1
          by_cases hlim : 1099511627776 < (if p.kind = 2 then f0 else f0 + p.n) ∨ 1099511627776 < (if p.kind = 3 then t0 else t0 + p.n)
          · rw [if_pos hlim] at e; cases e
          · rw [if_neg hlim] at e
            simp only [Option.some.injEq, Prod.mk.injEq] at e
            obtain ⟨rfl, rfl, rfl⟩ := e
            refine ⟨?_, by omega, ?_, by omega⟩ <;> split <;> omega
        · rw [if_neg hfit] at e; cases e
  exact this l (some (0, 0, 0)) (fun f t k e => by simp at e; omega)
def szVal (l : List Pt) : Value := match sizeL l with
  | none => .tuple #[.int .i64 0, .int .i64 0, .int .i64 30]
  | some (f, t, _) => .tuple #[.int .i64 f, .int .i64 t, .int .i64 0]
set_option maxRecDepth 100000 in
set_option maxHeartbeats 4000000 in
theorem size_any (a : Option Addr) (l : List Pt) (c : Nat) (w : World) (hT : UT w) (hp : PtsAt w a l) (hc : l.length ≤ maxLen) (hs : ∀ p ∈ l, p.text.size ≤ 281474976710656) :
    Calls Tryd.prog 28 #[.slice a l.length c] w fun r w' => r = .returned (szVal l) ∧ Below w.heap.size w w' := by
  have HT := hide hT
  have HP := hide hp
  have HS := hide hs
  obtain ⟨n, hn⟩ : ∃ n, l.length = n := ⟨_, rfl⟩
  rw [hn] at hc ⊢
  have HN := hide hn
  have nI : (n : Int) ≤ 9223372036854775807 := by unfold maxLen at hc; omega
  clear hT hp hs hn
  go_enter Tryd.func28, Tryd.ntmps28
  go_wp2_with fail
  go_loopw [2, 3, 5, 10] (fun f t la i wr => ∃ k : Nat, k ≤ n ∧ i = .int .i64 (k : Int) ∧ (∃ fv tv lv : Int, f = .int .i64 fv ∧ t = .int .i64 tv ∧ la = .int .i64 lv ∧ Hid (sizeL (l.take k) = some (fv, tv, lv))) ∧ Hid (Below w.heap.size w wr)) (fun _ _ _ i _ => ((n : Int) - intOf i).toNat)
  case atStart => exact ⟨0, by omega, by simp, ⟨0, 0, 0, by simp, by simp, by simp, hide (by simp [sizeL])⟩, hide (Below.refl _ _)⟩
  case round =>
    obtain ⟨k, hk, rfl, ⟨fv, tv, lv, rfl, rfl, rfl, HSZ⟩, HB⟩ := hrel
    by_cases hlt : k < n
    · have kI : (k : Int) < (n : Int) := by omega
      obtain ⟨p, hpk⟩ : ∃ p, l[k]? = some p := ⟨_, List.getElem?_eq_getElem (by have := unhide HN; omega)⟩
      obtain ⟨b, off, rfl, e0, e1, e2⟩ := (unhide HP).at_ (unhide HB) hpk
      have HST := hide (sizeL_take hpk)
      rw [unhide HSZ] at HST
      obtain ⟨b1, b2, b3, b4⟩ := sizeL_bounds _ _ _ _ (unhide HSZ)
      have hps := unhide HS p (List.mem_of_getElem? hpk)
      have hbA : Below wr.heap.size wr (wr.alloc (.cells #[.int .i64 p.kind, .int .i64 p.n, .string p.text] 44)) := (Below.refl _ _).alloc (Nat.le_refl _) _
      have HBA := hide ((unhide HB).trans (hbA.mono (unhide HB).size))
      have HRW := hide (RowAt.new wr 44 [.int .i64 p.kind, .int .i64 p.n, .string p.text])
      have HFI : Hid (∀ W, Below (wr.alloc (.cells #[.int .i64 p.kind, .int .i64 p.n, .string p.text] 44)).heap.size (wr.alloc (.cells #[.int .i64 p.kind, .int .i64 p.n, .string p.text] 44)) W → Calls Tryd.prog 48 #[.agg #[.int .i64 p.kind, .int .i64 p.n, .string p.text]] W fun r w' => r = .returned (.bool (fitsB p)) ∧ Below W.heap.size W w') := hide (fun W hW => fits_any p W (((unhide HT).call (unhide HBA)).call hW) hps)
      clear hpk hps hbA
      go_wp2_with fail
      obtain ⟨wA, hA⟩ : ∃ wA, wr.alloc (.cells #[.int .i64 p.kind, .int .i64 p.n, .string p.text] 44) = wA := ⟨_, rfl⟩
      have HFI2 := hide (unhide HFI _ (Below.refl _ _))
      rw [hA] at HBA HRW HFI2 ⊢
      clear hA HFI HB e0 e1 e2
      obtain ⟨bb, hbb⟩ : ∃ bb, wr.heap.size = bb := ⟨_, rfl⟩
      rw [hbb] at HRW ⊢
      clear hbb
      refine Calls.mono (unhide HFI2) ?_
      rintro r w2 ⟨rfl, hb2⟩
      have HB2 := hide ((unhide HBA).trans (hb2.mono (unhide HBA).size))
      have HR2 := hide ((unhide HRW).below hb2 (unhide HRW).lt)
      clear hb2 HBA HRW HFI2
      have r0 : w2.cell? ⟨bb, 0, none⟩ = some (.int .i64 p.kind) := (unhide HR2).cell 0
      have r1 : w2.cell? ⟨bb, 1, none⟩ = some (.int .i64 p.n) := (unhide HR2).cell 1
      cases hfb : fitsB p with
      | false =>
        have HNO : Hid (sizeL (l.take (k + 1)) = none) := hide (by rw [unhide HST]; simp [sizeStep, hfb])
        have HBX := HB2
        clear hfb
        go_wp2_with fail
        go_ret3
        have hz := sizeL_none (unhide HNO)
        exact ⟨by unfold szVal; rw [hz]; rfl, unhide HBX⟩
      | true =>
        obtain ⟨n1, n2⟩ := fits_bounds hfb
        have HFB := hide hfb
        clear hfb
        go_wp2_with fail
        refine Calls.mono (follows_any p.kind lv w2) ?_
        rintro r w3 ⟨rfl, rfl⟩
        rw [show (decide (p.kind ≠ lv) && !(decide (p.kind = 2) && decide (lv = 3))) = followsB p.kind lv from rfl]
        cases hfo : followsB p.kind lv with
        | false =>
          have HNO : Hid (sizeL (l.take (k + 1)) = none) := hide (by rw [unhide HST]; simp [sizeStep, hfo])
          have HBX := HB2
          clear hfo
          go_wp2_with fail
          go_ret3
          have hz := sizeL_none (unhide HNO)
          exact ⟨by unfold szVal; rw [hz]; rfl, unhide HBX⟩
        | true =>
          have HFO := hide hfo
          have HB3 := HB2
          clear hfo HB2
          by_cases k2 : p.kind = 2
          · rw [k2] at r0
            have K2 := hide k2
            by_cases hA : 1099511627776 < fv
            · exfalso; omega
            by_cases hB : 1099511627776 < tv + p.n
            · have HNO : Hid (sizeL (l.take (k + 1)) = none) := hide (by rw [unhide HST]; simp only [sizeStep]; rw [if_pos ⟨unhide HFB, unhide HFO⟩]; simp only [unhide K2, if_true, show ((2 : Int) = 3) = False from by simp, if_false]; rw [if_pos (.inr hB)])
              have HBX := HB3
              go_wp2_with fail
              go_ret3
              have hz := sizeL_none (unhide HNO)
              exact ⟨by unfold szVal; rw [hz]; rfl, unhide HBX⟩
            have HNX : Hid (sizeL (l.take (k + 1)) = some (fv, tv + p.n, p.kind)) := hide (by rw [unhide HST]; simp only [sizeStep]; rw [if_pos ⟨unhide HFB, unhide HFO⟩]; simp only [unhide K2, if_true, show ((2 : Int) = 3) = False from by simp, if_false]; rw [if_neg (by omega)])
            go_wp2_with fail
            exact ⟨⟨k + 1, by omega, by simp, ⟨_, _, _, rfl, rfl, rfl, hide (by rw [← unhide K2]; exact unhide HNX)⟩, HB3⟩, by simp [intOf]; omega⟩
          have k2b : (p.kind == 2) = false := by simp [k2]
          by_cases k3 : p.kind = 3
          · rw [k3] at r0
            have K3 := hide k3
            by_cases hA : 1099511627776 < fv + p.n
            · have HNO : Hid (sizeL (l.take (k + 1)) = none) := hide (by rw [unhide HST]; simp only [sizeStep]; rw [if_pos ⟨unhide HFB, unhide HFO⟩]; simp only [unhide K3, if_true, show ((3 : Int) = 2) = False from by simp, if_false]; rw [if_pos (.inl hA)])
              have HBX := HB3
              go_wp2_with fail
              go_ret3
              have hz := sizeL_none (unhide HNO)
              exact ⟨by unfold szVal; rw [hz]; rfl, unhide HBX⟩
            by_cases hB : 1099511627776 < tv
            · exfalso; omega
            have HNX : Hid (sizeL (l.take (k + 1)) = some (fv + p.n, tv, p.kind)) := hide (by rw [unhide HST]; simp only [sizeStep]; rw [if_pos ⟨unhide HFB, unhide HFO⟩]; simp only [unhide K3, if_true, show ((3 : Int) = 2) = False from by simp, if_false]; rw [if_neg (by omega)])
            go_wp2_with fail
            exact ⟨⟨k + 1, by omega, by simp, ⟨_, _, _, rfl, rfl, rfl, hide (by rw [← unhide K3]; exact unhide HNX)⟩, HB3⟩, by simp [intOf]; omega⟩
          have k3b : (p.kind == 3) = false := by simp [k3]
          by_cases hA : 1099511627776 < fv + p.n
          · have HNO : Hid (sizeL (l.take (k + 1)) = none) := hide (by rw [unhide HST]; simp only [sizeStep]; rw [if_pos ⟨unhide HFB, unhide HFO⟩]; simp only [k2, k3, if_false]; rw [if_pos (.inl hA)])
            have HBX := HB3
            go_wp2_with fail
            go_ret3
            have hz := sizeL_none (unhide HNO)
            exact ⟨by unfold szVal; rw [hz]; rfl, unhide HBX⟩
          by_cases hB : 1099511627776 < tv + p.n
          · have HNO : Hid (sizeL (l.take (k + 1)) = none) := hide (by rw [unhide HST]; simp only [sizeStep]; rw [if_pos ⟨unhide HFB, unhide HFO⟩]; simp only [k2, k3, if_false]; rw [if_pos (.inr hB)])
            have HBX := HB3
            go_wp2_with fail
            go_ret3
            have hz := sizeL_none (unhide HNO)
            exact ⟨by unfold szVal; rw [hz]; rfl, unhide HBX⟩
          have HNX : Hid (sizeL (l.take (k + 1)) = some (fv + p.n, tv + p.n, p.kind)) := hide (by rw [unhide HST]; simp only [sizeStep]; rw [if_pos ⟨unhide HFB, unhide HFO⟩]; simp only [k2, k3, if_false]; rw [if_neg (by omega)])
          go_wp2_with fail
          exact ⟨⟨k + 1, by omega, by simp, ⟨_, _, _, rfl, rfl, rfl, HNX⟩, HB3⟩, by simp [intOf]; omega⟩
    · obtain rfl : n = k := by omega
      have kI : ¬ (n : Int) < (n : Int) := by omega
      have HE : Hid (sizeL l = some (fv, tv, lv)) := hide (by have := unhide HSZ; rw [List.take_of_length_le (by rw [unhide HN]; exact Nat.le_refl _)] at this; exact this)
      go_wp2_with fail
      go_ret3
      exact ⟨by unfold szVal; rw [unhide HE]; rfl, unhide HB⟩
end Go.Proofs.YtbnfilhilgjnfaaDoor.Ed

namespace Go.Proofs.YtbnfilhilgjnfaaDoor.Ed
set_option linter.unusedVariables false
set_option linter.unusedSimpArgs false
open Go.ChangeShapes Go.WideShapes Go.ChangeAt Go.RowKit Go.Joins Go.Deep

def wStep (st : Option (Int × Int)) (p : Pt) : Option (Int × Int) := match st with
  | none => none
  | some (a, b) => if fitsB p = true then some (if p.kind = 2 then a + p.n else a, if p.kind = 3 then b + p.n else b) else none
def wL (l : List Pt) : Option (Int × Int) := l.foldl wStep (some (0, 0))
def wVal (l : List Pt) : Value := match wL l with
  | none => .tuple #[.int .i64 0, .int .i64 0]
  | some (a, b) => .tuple #[.int .i64 a, .int .i64 b]
theorem wL_take {l : List Pt} {i : Nat} {p : Pt} (h : l[i]? = some p) : wL (l.take (i + 1)) = wStep (wL (l.take i)) p := by
  unfold wL
  rw [List.take_add_one, h, List.foldl_append]
  rfl
theorem wL_none {l : List Pt} {i : Nat} (h : wL (l.take i) = none) : wL l = none := by
  have e : l = l.take i ++ l.drop i := (List.take_append_drop i l).symm
  have : ∀ (m : List Pt), m.foldl wStep none = none := by
    intro m
    induction m with
    | nil => rfl
    | cons p m ih => exact ih
  unfold wL at h ⊢
  rw [e, List.foldl_append, h, this]
set_option maxRecDepth 100000 in
set_option maxHeartbeats 4000000 in
theorem weight_any (a : Option Addr) (l : List Pt) (c : Nat) (w : World) (hT : UT w) (hp : PtsAt w a l) (hc : l.length ≤ 4000) (hs : ∀ p ∈ l, p.text.size ≤ 281474976710656) :
    Calls Tryd.prog 29 #[.slice a l.length c] w fun r w' => r = .returned (wVal l) ∧ Below w.heap.size w w' := by
  have HT := hide hT
  have HP := hide hp
  have HS := hide hs
  obtain ⟨n, hn⟩ : ∃ n, l.length = n := ⟨_, rfl⟩
  rw [hn] at hc ⊢
  have HN := hide hn
  have nI : (n : Int) ≤ 4000 := by omega
  clear hp hs hn hT
  go_enter Tryd.func29, Tryd.ntmps29
  go_wp2_with fail
  go_loopw [2, 3, 8] (fun f t i wr => ∃ k : Nat, k ≤ n ∧ i = .int .i64 (k : Int) ∧ (∃ fv tv : Int, f = .int .i64 fv ∧ t = .int .i64 tv ∧ 0 ≤ fv ∧ fv ≤ (k : Int) * 1099511627776 ∧ 0 ≤ tv ∧ tv ≤ (k : Int) * 1099511627776 ∧ Hid (wL (l.take k) = some (fv, tv))) ∧ Hid (Below w.heap.size w wr)) (fun _ _ i _ => ((n : Int) - intOf i).toNat)
  case atStart => exact ⟨0, by omega, by simp, ⟨0, 0, by simp, by simp, by omega, by simp, by omega, by simp, hide (by simp [wL])⟩, hide (Below.refl _ _)⟩
  case round =>
    obtain ⟨k, hk, rfl, ⟨fv, tv, rfl, rfl, b1, b2, b3, b4, HSZ⟩, HB⟩ := hrel
    by_cases hlt : k < n
    · have kI : (k : Int) < (n : Int) := by omega
      obtain ⟨p, hpk⟩ : ∃ p, l[k]? = some p := ⟨_, List.getElem?_eq_getElem (by have := unhide HN; omega)⟩
      obtain ⟨b, off, rfl, e0, e1, e2⟩ := (unhide HP).at_ (unhide HB) hpk
      have HST := hide (wL_take hpk)
      rw [unhide HSZ] at HST
      have hps := unhide HS p (List.mem_of_getElem? hpk)
      have hbA : Below wr.heap.size wr (wr.alloc (.cells #[.int .i64 p.kind, .int .i64 p.n, .string p.text] 44)) := (Below.refl _ _).alloc (Nat.le_refl _) _
      have HBA := hide ((unhide HB).trans (hbA.mono (unhide HB).size))
      have HRW := hide (RowAt.new wr 44 [.int .i64 p.kind, .int .i64 p.n, .string p.text])
      have HFI2 : Hid (Calls Tryd.prog 48 #[.agg #[.int .i64 p.kind, .int .i64 p.n, .string p.text]] (wr.alloc (.cells #[.int .i64 p.kind, .int .i64 p.n, .string p.text] 44)) fun r w' => r = .returned (.bool (fitsB p)) ∧ Below (wr.alloc (.cells #[.int .i64 p.kind, .int .i64 p.n, .string p.text] 44)).heap.size (wr.alloc (.cells #[.int .i64 p.kind, .int .i64 p.n, .string p.text] 44)) w') := hide (fits_any p _ ((unhide HT).call (unhide HBA)) hps)
      clear hpk hps hbA
      go_wp2_with fail
      obtain ⟨wA, hA⟩ : ∃ wA, wr.alloc (.cells #[.int .i64 p.kind, .int .i64 p.n, .string p.text] 44) = wA := ⟨_, rfl⟩
      rw [hA] at HBA HRW HFI2 ⊢
      clear hA HB e0 e1 e2
      obtain ⟨bb, hbb⟩ : ∃ bb, wr.heap.size = bb := ⟨_, rfl⟩
      rw [hbb] at HRW ⊢
      clear hbb
      refine Calls.mono (unhide HFI2) ?_
      rintro r w3 ⟨rfl, hb2⟩
      have HB3 := hide ((unhide HBA).trans (hb2.mono (unhide HBA).size))
      have HR2 := hide ((unhide HRW).below hb2 (unhide HRW).lt)
      clear hb2 HBA HRW HFI2
      have r0 : w3.cell? ⟨bb, 0, none⟩ = some (.int .i64 p.kind) := (unhide HR2).cell 0
      have r1 : w3.cell? ⟨bb, 1, none⟩ = some (.int .i64 p.n) := (unhide HR2).cell 1
      cases hfb : fitsB p with
      | false =>
        have HNO : Hid (wL (l.take (k + 1)) = none) := hide (by rw [unhide HST]; simp [wStep, hfb])
        clear hfb
        go_wp2_with fail
        go_ret2
        have hz := wL_none (unhide HNO)
        exact ⟨by unfold wVal; rw [hz]; rfl, unhide HB3⟩
      | true =>
        obtain ⟨n1, n2⟩ := fits_bounds hfb
        have HFB := hide hfb
        clear hfb
        by_cases k2 : p.kind = 2
        · rw [k2] at r0
          have K2 := hide k2
          have HNX : Hid (wL (l.take (k + 1)) = some (fv + p.n, tv)) := hide (by rw [unhide HST]; simp only [wStep]; rw [if_pos (unhide HFB)]; simp only [unhide K2, if_true, show ((2 : Int) = 3) = False from by simp, if_false])
          go_wp2_with fail
          refine Calls.mono (plus_any fv p.n w3 (by omega) (by omega) (by omega) (by omega)) ?_
          rintro r w4 ⟨rfl, rfl⟩
          rw [show plusN fv p.n = fv + p.n from by unfold plusN; rw [if_neg (by omega)]]
          go_wp2_with fail
          exact ⟨⟨k + 1, by omega, by simp, ⟨_, _, rfl, rfl, by omega, by push_cast; omega, by omega, by push_cast; omega, HNX⟩, HB3⟩, by simp [intOf]; omega⟩
        have k2b : (p.kind == 2) = false := by simp [k2]
        by_cases k3 : p.kind = 3
        · rw [k3] at r0
          have K3 := hide k3
          have HNX : Hid (wL (l.take (k + 1)) = some (fv, tv + p.n)) := hide (by rw [unhide HST]; simp only [wStep]; rw [if_pos (unhide HFB)]; simp only [unhide K3, if_true, show ((3 : Int) = 2) = False from by simp, if_false])
          go_wp2_with fail
          refine Calls.mono (plus_any tv p.n w3 (by omega) (by omega) (by omega) (by omega)) ?_
          rintro r w4 ⟨rfl, rfl⟩
          rw [show plusN tv p.n = tv + p.n from by unfold plusN; rw [if_neg (by omega)]]
          go_wp2_with fail
          exact ⟨⟨k + 1, by omega, by simp, ⟨_, _, rfl, rfl, by omega, by push_cast; omega, by omega, by push_cast; omega, HNX⟩, HB3⟩, by simp [intOf]; omega⟩
        have k3b : (p.kind == 3) = false := by simp [k3]
        have HNX : Hid (wL (l.take (k + 1)) = some (fv, tv)) := hide (by rw [unhide HST]; simp only [wStep]; rw [if_pos (unhide HFB)]; simp only [k2, k3, if_false])
        go_wp2_with fail
        exact ⟨⟨k + 1, by omega, by simp, ⟨_, _, rfl, rfl, by omega, by push_cast; omega, by omega, by push_cast; omega, HNX⟩, HB3⟩, by simp [intOf]; omega⟩
    · obtain rfl : n = k := by omega
      have kI : ¬ (n : Int) < (n : Int) := by omega
      have HE : Hid (wL l = some (fv, tv)) := hide (by have := unhide HSZ; rw [List.take_of_length_le (by rw [unhide HN]; exact Nat.le_refl _)] at this; exact this)
      go_wp2_with fail
      go_ret2
      exact ⟨by unfold wVal; rw [unhide HE]; rfl, unhide HB⟩
end Go.Proofs.YtbnfilhilgjnfaaDoor.Ed
