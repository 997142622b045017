/- Parts of the walk: Txt, Cnt, Par, Cut, Mem, Bld, ATl. -/
import Derived.Lib.ValidLaws
import Derived.Lib.TrimUEq
import Derived.Lib.RuneCount
import Derived.Test.YtonabfpgdgnpnaaDoorRows
import Derived.Shelf.Utf8.RuneCount
import Derived.Shelf.Lay
import Derived.Ground.NamesProg
import Derived.Lib.Agree
import Derived.ProofKit
import Derived.WalkKit
import Derived.Handy
import Derived.OpenShut
import Derived.ChangeOld
import Derived.Deep.RegionHeld3
import Derived.Deep.QuietTactic
import Derived.Lib.SmallJoins
import Derived.Shelf.Unicode.DecodeAny
import Derived.Deep.AppendLies
import Derived.StillTail
import Derived.Shelf.Strings.Builder1
import Derived.Deep.RegionHeld
import Derived.Maps.RangeWalk
namespace Go.Proofs.YtonabfpgdgnpnaaDoor
set_option linter.unusedVariables false
set_option linter.unusedSimpArgs false
open Go.Lib

/-- a code point is read alike whatever stands behind it -/
theorem decN_same {n n' b0 b1 b2 b3 c1 c2 c3 : Nat} (hg : ¬ ((decodeN n b0 b1 b2 b3).1 = 65533 ∧ (decodeN n b0 b1 b2 b3).2 = 1)) (hn : (decodeN n b0 b1 b2 b3).2 ≤ n')
    (h1 : 1 < (decodeN n b0 b1 b2 b3).2 → c1 = b1) (h2 : 2 < (decodeN n b0 b1 b2 b3).2 → c2 = b2) (h3 : 3 < (decodeN n b0 b1 b2 b3).2 → c3 = b3) : decodeN n' b0 c1 c2 c3 = decodeN n b0 b1 b2 b3 := by
  by_cases a0 : b0 < 128
  · simp [decodeN, a0]
  by_cases a1 : b0 / 32 = 6 ∧ (1 < n ∧ b1 / 64 = 2)
  · have e : decodeN n b0 b1 b2 b3 = (if b0 % 32 * 64 + b1 % 64 ≥ 128 then (b0 % 32 * 64 + b1 % 64, 2) else (65533, 1)) := by unfold decodeN; rw [if_neg a0, if_pos a1]
    rw [e] at hg hn h1 h2 h3 ⊢
    by_cases q : b0 % 32 * 64 + b1 % 64 ≥ 128
    · rw [if_pos q] at hn h1 h2 h3 ⊢
      simp only at hn h1
      have := h1 (by decide)
      subst this
      unfold decodeN
      rw [if_neg a0, if_pos ⟨a1.1, by omega, a1.2.2⟩, if_pos q]
    · rw [if_neg q] at hg; simp at hg
  by_cases a2 : b0 / 16 = 14 ∧ (1 < n ∧ b1 / 64 = 2) ∧ (2 < n ∧ b2 / 64 = 2)
  · have e : decodeN n b0 b1 b2 b3 = (if b0 % 16 * 4096 + b1 % 64 * 64 + b2 % 64 ≥ 2048 ∧ (b0 % 16 * 4096 + b1 % 64 * 64 + b2 % 64 < 55296 ∨ (57344 ≤ b0 % 16 * 4096 + b1 % 64 * 64 + b2 % 64 ∧ b0 % 16 * 4096 + b1 % 64 * 64 + b2 % 64 ≤ 1114111)) then (b0 % 16 * 4096 + b1 % 64 * 64 + b2 % 64, 3) else (65533, 1)) := by unfold decodeN; rw [if_neg a0, if_neg a1, if_pos a2]
    rw [e] at hg hn h1 h2 h3 ⊢
    by_cases q : b0 % 16 * 4096 + b1 % 64 * 64 + b2 % 64 ≥ 2048 ∧ (b0 % 16 * 4096 + b1 % 64 * 64 + b2 % 64 < 55296 ∨ (57344 ≤ b0 % 16 * 4096 + b1 % 64 * 64 + b2 % 64 ∧ b0 % 16 * 4096 + b1 % 64 * 64 + b2 % 64 ≤ 1114111))
    · rw [if_pos q] at hn h1 h2 h3 ⊢
      simp only at hn h1 h2
      have e1 := h1 (by decide)
      have e2 := h2 (by decide)
      subst e1 e2
      unfold decodeN
      rw [if_neg a0, if_neg (by omega), if_pos ⟨a2.1, ⟨by omega, a2.2.1.2⟩, by omega, a2.2.2.2⟩, if_pos q]
    · rw [if_neg q] at hg; simp at hg
  by_cases a3 : b0 / 8 = 30 ∧ (1 < n ∧ b1 / 64 = 2) ∧ (2 < n ∧ b2 / 64 = 2) ∧ (3 < n ∧ b3 / 64 = 2)
  · have e : decodeN n b0 b1 b2 b3 = (if b0 % 8 * 262144 + b1 % 64 * 4096 + b2 % 64 * 64 + b3 % 64 ≥ 65536 ∧ (b0 % 8 * 262144 + b1 % 64 * 4096 + b2 % 64 * 64 + b3 % 64 < 55296 ∨ (57344 ≤ b0 % 8 * 262144 + b1 % 64 * 4096 + b2 % 64 * 64 + b3 % 64 ∧ b0 % 8 * 262144 + b1 % 64 * 4096 + b2 % 64 * 64 + b3 % 64 ≤ 1114111)) then (b0 % 8 * 262144 + b1 % 64 * 4096 + b2 % 64 * 64 + b3 % 64, 4) else (65533, 1)) := by unfold decodeN; rw [if_neg a0, if_neg a1, if_neg a2, if_pos a3]
    rw [e] at hg hn h1 h2 h3 ⊢
    by_cases q : b0 % 8 * 262144 + b1 % 64 * 4096 + b2 % 64 * 64 + b3 % 64 ≥ 65536 ∧ (b0 % 8 * 262144 + b1 % 64 * 4096 + b2 % 64 * 64 + b3 % 64 < 55296 ∨ (57344 ≤ b0 % 8 * 262144 + b1 % 64 * 4096 + b2 % 64 * 64 + b3 % 64 ∧ b0 % 8 * 262144 + b1 % 64 * 4096 + b2 % 64 * 64 + b3 % 64 ≤ 1114111))
    · rw [if_pos q] at hn h1 h2 h3 ⊢
      simp only at hn h1 h2 h3
      have e1 := h1 (by decide)
      have e2 := h2 (by decide)
      have e3 := h3 (by decide)
      subst e1 e2 e3
      unfold decodeN
      rw [if_neg a0, if_neg (by omega), if_neg (by omega), if_pos ⟨a3.1, ⟨by omega, a3.2.1.2⟩, ⟨by omega, a3.2.2.1.2⟩, by omega, a3.2.2.2.2⟩, if_pos q]
    · rw [if_neg q] at hg; simp at hg
  · exfalso
    apply hg
    unfold decodeN
    rw [if_neg a0, if_neg a1, if_neg a2, if_neg a3]
    exact ⟨rfl, rfl⟩
theorem decN_width (n b0 b1 b2 b3 : Nat) (hn : 1 ≤ n) : 1 ≤ (decodeN n b0 b1 b2 b3).2 ∧ (decodeN n b0 b1 b2 b3).2 ≤ n := by
  unfold decodeN
  repeat' split
  all_goals simp <;> omega
/-- these bytes are one code point -/
structure Cp (c : List UInt8) : Prop where
  ne : c ≠ []
  ok : ¬ ((decodeL c).1 = 65533 ∧ (decodeL c).2 = 1)
  all : (decodeL c).2 = c.length
theorem dec_width (l : List UInt8) (h : l ≠ []) : 1 ≤ (decodeL l).2 ∧ (decodeL l).2 ≤ l.length := by
  rw [decodeL_N]
  exact decN_width _ _ _ _ _ (List.length_pos_iff.2 h)
theorem dec_same {l m : List UInt8} (hg : ¬ ((decodeL l).1 = 65533 ∧ (decodeL l).2 = 1)) (hne : l ≠ []) (hk : (decodeL l).2 ≤ m.length) (h : m.take (decodeL l).2 = l.take (decodeL l).2) : decodeL m = decodeL l := by
  have hw := dec_width l hne
  have get : ∀ i, i < (decodeL l).2 → m.getD i 0 = l.getD i 0 := by
    intro i hi
    have h1 : (m.take (decodeL l).2)[i]? = (l.take (decodeL l).2)[i]? := by rw [h]
    rw [List.getElem?_take_of_lt hi, List.getElem?_take_of_lt hi] at h1
    simp [List.getD_eq_getElem?_getD, h1]
  have e0 := get 0 (by omega)
  have eq := decodeL_N l
  rw [decodeL_N m, decodeL_N l, e0]
  exact decN_same (by rw [← eq]; exact hg) (by rw [← eq]; exact hk) (fun hi => by rw [get 1 (by rw [eq]; exact hi)]) (fun hi => by rw [get 2 (by rw [eq]; exact hi)]) (fun hi => by rw [get 3 (by rw [eq]; exact hi)])
theorem Cp.front {c : List UInt8} (h : Cp c) (m : List UInt8) : decodeL (c ++ m) = decodeL c := by
  refine dec_same h.ok h.ne ?_ ?_
  · rw [h.all, List.length_append]; omega
  · rw [h.all, List.take_left, List.take_of_length_le (Nat.le_refl _)]
theorem cp_take {l : List UInt8} (hne : l ≠ []) (hg : ¬ ((decodeL l).1 = 65533 ∧ (decodeL l).2 = 1)) : Cp (l.take (decodeL l).2) := by
  have hw := dec_width l hne
  have hlen : (l.take (decodeL l).2).length = (decodeL l).2 := by rw [List.length_take]; omega
  have e : decodeL (l.take (decodeL l).2) = decodeL l := dec_same hg hne (by rw [hlen]; exact Nat.le_refl _) (by rw [List.take_take, Nat.min_self])
  refine ⟨fun h => ?_, by rw [e]; exact hg, by rw [e, hlen]⟩
  rw [h] at hlen
  simp at hlen
  omega
/-- all are code points -/
def Cps (cs : List (List UInt8)) : Prop := ∀ c ∈ cs, Cp c
theorem Cps.nil : Cps [] := fun c h => by cases h
theorem Cps.cons {c : List UInt8} {cs : List (List UInt8)} (h : Cp c) (hs : Cps cs) : Cps (c :: cs) := fun d hd => by
  rcases List.mem_cons.1 hd with rfl | hd
  · exact h
  · exact hs d hd
theorem Cps.tail {c : List UInt8} {cs : List (List UInt8)} (h : Cps (c :: cs)) : Cps cs := fun d hd => h d (List.mem_cons_of_mem _ hd)
theorem Cps.head {c : List UInt8} {cs : List (List UInt8)} (h : Cps (c :: cs)) : Cp c := h c (List.mem_cons_self ..)
theorem Cps.append {cs ds : List (List UInt8)} (h : Cps cs) (k : Cps ds) : Cps (cs ++ ds) := fun d hd => (List.mem_append.1 hd).elim (h d) (k d)
theorem Cps.take {cs : List (List UInt8)} (h : Cps cs) (n : Nat) : Cps (cs.take n) := fun d hd => h d (List.mem_of_mem_take hd)
theorem Cps.drop {cs : List (List UInt8)} (h : Cps cs) (n : Nat) : Cps (cs.drop n) := fun d hd => h d (List.mem_of_mem_drop hd)
theorem flat_valid {cs : List (List UInt8)} (h : Cps cs) : validD cs.flatten = true := by
  induction cs with
  | nil => rfl
  | cons c cs ih =>
    have hc := h.head
    rw [List.flatten_cons, validD_step _ (by simp [hc.ne]), hc.front]
    rw [if_neg hc.ok, hc.all, List.drop_left]
    exact ih h.tail
theorem valid_flat : ∀ (k : Nat) (l : List UInt8), l.length ≤ k → validD l = true → ∃ cs, Cps cs ∧ l = cs.flatten
  | 0, l, hk, _ => by
    obtain rfl : l = [] := List.length_eq_zero_iff.1 (by omega)
    exact ⟨[], Cps.nil, rfl⟩
  | k + 1, l, hk, hv => by
    by_cases hne : l = []
    · subst hne; exact ⟨[], Cps.nil, rfl⟩
    rw [validD_step l hne] at hv
    split at hv
    · cases hv
    · rename_i hg
      have hw := dec_width l hne
      obtain ⟨cs, h1, h2⟩ := valid_flat k (l.drop (decodeL l).2) (by rw [List.length_drop]; omega) hv
      exact ⟨l.take (decodeL l).2 :: cs, Cps.cons (cp_take hne hg) h1, by rw [List.flatten_cons, ← h2, List.take_append_drop]⟩
theorem flat_inj : ∀ {cs ds : List (List UInt8)}, Cps cs → Cps ds → cs.flatten = ds.flatten → cs = ds
  | [], [], _, _, _ => rfl
  | [], d :: ds, _, hd, h => by
    have := hd.head.ne
    rw [List.flatten_nil, List.flatten_cons] at h
    exact absurd (List.append_eq_nil_iff.1 h.symm).1 this
  | c :: cs, [], hc, _, h => by
    have := hc.head.ne
    rw [List.flatten_nil, List.flatten_cons] at h
    exact absurd (List.append_eq_nil_iff.1 h).1 this
  | c :: cs, d :: ds, hc, hd, h => by
    rw [List.flatten_cons, List.flatten_cons] at h
    have e1 := hc.head.front cs.flatten
    have e2 := hd.head.front ds.flatten
    rw [h, e2] at e1
    have hl : c.length = d.length := by rw [← hc.head.all, ← hd.head.all, e1]
    obtain ⟨rfl, h2⟩ := List.append_inj h hl
    rw [flat_inj hc.tail hd.tail h2]
/-- a text is these code points -/
structure Tx (s : ByteArray) (cs : List (List UInt8)) : Prop where
  cps : Cps cs
  eq : s.data.toList = cs.flatten
theorem tx_of_valid {s : ByteArray} (h : validD s.data.toList = true) : ∃ cs, Tx s cs := by
  obtain ⟨cs, h1, h2⟩ := valid_flat _ s.data.toList (Nat.le_refl _) h
  exact ⟨cs, h1, h2⟩
theorem Tx.valid {s : ByteArray} {cs : List (List UInt8)} (h : Tx s cs) : validD s.data.toList = true := by
  rw [h.eq]; exact flat_valid h.cps
theorem Tx.inj {s : ByteArray} {cs ds : List (List UInt8)} (h : Tx s cs) (k : Tx s ds) : cs = ds := flat_inj h.cps k.cps (h.eq.symm.trans k.eq)
theorem Tx.size {s : ByteArray} {cs : List (List UInt8)} (h : Tx s cs) : s.size = cs.flatten.length := by
  rw [← h.eq]; exact size_eq s
theorem count_from (s : ByteArray) : ∀ (ds : List (List UInt8)) (fuel pos : Nat), Cps ds → s.data.toList.drop pos = ds.flatten → ds.flatten.length ≤ fuel → runeCountFrom s fuel pos = ds.length
  | [], fuel, pos, _, h, _ => by
    have hp : ¬ pos < s.size := by
      have := congrArg List.length h
      rw [List.length_drop, ← size_eq] at this
      simp at this
      omega
    rw [runeCountFrom_end s fuel pos hp]
    rfl
  | d :: ds, fuel, pos, hd, h, hf => by
    have hc := hd.head
    have hl := congrArg List.length h
    rw [List.length_drop, ← size_eq, List.flatten_cons, List.length_append] at hl
    rw [List.flatten_cons, List.length_append] at hf
    have hpos : 0 < d.length := List.length_pos_iff.2 hc.ne
    have hp : pos < s.size := by omega
    cases fuel with
    | zero => omega
    | succ fuel =>
      have hdec : (Utf8.decode s pos).2 = d.length := by rw [← decodeL_drop, h, List.flatten_cons, hc.front, hc.all]
      have hdrop : s.data.toList.drop (pos + d.length) = ds.flatten := by
        rw [← List.drop_drop, h, List.flatten_cons, List.drop_left]
      show (if pos < s.size then 1 + runeCountFrom s fuel (pos + (Utf8.decode s pos).2) else 0) = _
      rw [if_pos hp, hdec, count_from s ds fuel (pos + d.length) hd.tail hdrop (by omega), List.length_cons]
      omega
theorem Tx.count {s : ByteArray} {cs : List (List UInt8)} (h : Tx s cs) : runeCount s = cs.length :=
  count_from s cs s.size 0 h.cps (by rw [List.drop_zero]; exact h.eq) (by rw [h.size]; exact Nat.le_refl _)
/-- where the first n code points end -/
def placeOf (cs : List (List UInt8)) (n : Nat) : Nat := (cs.take n).flatten.length
theorem placeOf_zero (cs : List (List UInt8)) : placeOf cs 0 = 0 := by simp [placeOf]
theorem placeOf_le (cs : List (List UInt8)) (n : Nat) : placeOf cs n ≤ cs.flatten.length := by
  unfold placeOf
  have h : cs.flatten = (cs.take n).flatten ++ (cs.drop n).flatten := by rw [← List.flatten_append, List.take_append_drop]
  rw [h, List.length_append]
  omega
theorem drop_place {s : ByteArray} {cs : List (List UInt8)} (h : Tx s cs) (n : Nat) : s.data.toList.drop (placeOf cs n) = (cs.drop n).flatten := by
  have e : cs.flatten = (cs.take n).flatten ++ (cs.drop n).flatten := by rw [← List.flatten_append, List.take_append_drop]
  rw [h.eq, e]
  unfold placeOf
  rw [List.drop_left]
theorem take_place {s : ByteArray} {cs : List (List UInt8)} (h : Tx s cs) (n : Nat) : s.data.toList.take (placeOf cs n) = (cs.take n).flatten := by
  have e : cs.flatten = (cs.take n).flatten ++ (cs.drop n).flatten := by rw [← List.flatten_append, List.take_append_drop]
  rw [h.eq, e]
  unfold placeOf
  rw [List.take_left]
theorem placeOf_next {s : ByteArray} {cs : List (List UInt8)} (h : Tx s cs) {n : Nat} (hn : n < cs.length) : placeOf cs (n + 1) = placeOf cs n + (Utf8.decode s (placeOf cs n)).2 ∧ placeOf cs n < s.size := by
  obtain ⟨c, hc⟩ : ∃ c, cs[n]? = some c := ⟨_, List.getElem?_eq_getElem hn⟩
  have hd := drop_place h n
  have e : cs.drop n = c :: cs.drop (n + 1) := by
    rw [List.drop_eq_getElem_cons hn]
    rw [(List.getElem?_eq_some_iff.1 hc).2]
  have hcp := h.cps c (List.mem_of_getElem? hc)
  have hw : (Utf8.decode s (placeOf cs n)).2 = c.length := by rw [← decodeL_drop, hd, e, List.flatten_cons, hcp.front, hcp.all]
  constructor
  · rw [hw]
    unfold placeOf
    rw [List.take_add_one, hc, List.flatten_append, List.length_append]
    simp
  · have hl := congrArg List.length hd
    rw [List.length_drop, ← size_eq, e, List.flatten_cons, List.length_append] at hl
    have := List.length_pos_iff.2 hcp.ne
    omega
end Go.Proofs.YtonabfpgdgnpnaaDoor

namespace Go.Proofs.YtonabfpgdgnpnaaDoor
set_option linter.unusedVariables false
set_option linter.unusedSimpArgs false
open Go.ChangeShapes Go.WideShapes Go.ChangeAt Go.RowKit Go.Joins Go.Shelf

shelf_lay Lays.n195 Nm 195 at Tryd as Tryd.lays195
theorem fCount : Tryd.lays195_ren.f 195 = 19 := by kernel_rfl
theorem counts_any (s : ByteArray) (w : World) (hs : s.size < 9223372036854775807) :
    Calls Tryd.prog 19 #[.string s] w fun e w' => e = .returned (.int .i64 (Lib.runeCount s)) ∧ Below w.heap.size w w' := by
  have h := Any.utf8_RuneCountInString Tryd.lays195 s w hs
  rw [fCount] at h
  refine Calls.mono h ?_
  rintro e w' ⟨rfl, pos, rfl⟩
  exact ⟨rfl, (Below.refl _ _).alloc (Nat.le_refl _) _⟩
end Go.Proofs.YtonabfpgdgnpnaaDoor

namespace Go.Proofs.YtonabfpgdgnpnaaDoor
set_option linter.unusedVariables false
set_option linter.unusedSimpArgs false
open Go.ChangeShapes Go.WideShapes Go.ChangeAt Go.RowKit Go.Joins

def Hid (p : Prop) : Prop := p
theorem hide {p : Prop} (h : p) : Hid p := h
theorem unhide {p : Prop} (h : Hid p) : p := h
/-- a part of an edit -/
structure Pt where
  kind : Int
  n : Int
  text : ByteArray
def pv (p : Pt) : Value := .agg #[.int .i64 p.kind, .int .i64 p.n, .string p.text]
def pcs (p : Pt) : List Value := [.int .i64 p.kind, .int .i64 p.n, .string p.text]
/-- these parts lie there -/
def PtsAt (w : World) (a : Option Addr) (l : List Pt) : Prop := l = [] ∨ ∃ b off, a = some ⟨b, off, none⟩ ∧ b < w.heap.size ∧ ∀ (i : Nat) p, l[i]? = some p →
  w.cell? ⟨b, off + i * 3, none⟩ = some (.int .i64 p.kind) ∧ w.cell? ⟨b, off + i * 3 + 1, none⟩ = some (.int .i64 p.n) ∧ w.cell? ⟨b, off + i * 3 + 2, none⟩ = some (.string p.text)
theorem PtsAt.call {w w' : World} {a : Option Addr} {l : List Pt} (h : PtsAt w a l) (hb : Below w.heap.size w w') : PtsAt w' a l := by
  rcases h with h | ⟨b, off, rfl, hlt, hc⟩
  · exact .inl h
  · refine .inr ⟨b, off, rfl, Nat.lt_of_lt_of_le hlt hb.size, fun i k hk => ?_⟩
    obtain ⟨q0, q1, q2⟩ := hc i k hk
    rw [hb.cell (p := ⟨b, _, none⟩) hlt, hb.cell (p := ⟨b, _, none⟩) hlt, hb.cell (p := ⟨b, _, none⟩) hlt]
    exact ⟨q0, q1, q2⟩
theorem PtsAt.at_ {w wr : World} {a : Option Addr} {l : List Pt} (h : PtsAt w a l) (hb : Below w.heap.size w wr) {i : Nat} {p : Pt} (hp : l[i]? = some p) : ∃ b off, a = some ⟨b, off, none⟩ ∧
    wr.cell? ⟨b, off + i * 3, none⟩ = some (.int .i64 p.kind) ∧ wr.cell? ⟨b, off + i * 3 + 1, none⟩ = some (.int .i64 p.n) ∧ wr.cell? ⟨b, off + i * 3 + 2, none⟩ = some (.string p.text) := by
  rcases h.call hb with h0 | ⟨b, off, rfl, hbl, hcs⟩
  · rw [h0] at hp; cases hp
  · exact ⟨b, off, rfl, hcs i p hp⟩
set_option maxRecDepth 100000 in
set_option maxHeartbeats 4000000 in
theorem follows_any (k l : Int) (w : World) : Calls Tryd.prog 81 #[.int .i64 k, .int .i64 l] w fun r w' => r = .returned (.bool (decide (k ≠ l) && !(decide (k = 2) && decide (l = 3)))) ∧ w = w' := by
  by_cases h0 : k = l
  · have hb : (k == l) = true := by simp [h0]
    have hn : (k != l) = false := by simp [h0]
    have hd : decide (k ≠ l) = false := by simp [h0]
    rw [hd]
    clear h0
    go_enter Tryd.func81, Tryd.ntmps81
    go_wp2_with fail
    go_ret
    exact ⟨rfl, rfl⟩
  · have hb : (k == l) = false := by simp [h0]
    have hn : (k != l) = true := by simp [h0]
    have hd : decide (k ≠ l) = true := by simp [h0]
    rw [hd]
    by_cases h2 : k = 2
    · subst h2
      by_cases h3 : l = 3
      · subst h3
        go_enter Tryd.func81, Tryd.ntmps81
        go_wp2_with fail
        go_ret
        exact ⟨rfl, rfl⟩
      · have h3b : (l == 3) = false := by simp [h3]
        have hd3 : decide (l = 3) = false := by simp [h3]
        rw [hd3]
        go_enter Tryd.func81, Tryd.ntmps81
        go_wp2_with fail
        go_ret
        exact ⟨rfl, rfl⟩
    · have h2b : (k == 2) = false := by simp [h2]
      have hd2 : decide (k = 2) = false := by simp [h2]
      rw [hd2]
      go_enter Tryd.func81, Tryd.ntmps81
      go_wp2_with fail
      go_ret
      exact ⟨rfl, rfl⟩
def plusN (a b : Int) : Int := if 9223372036854775807 - b < a then 9223372036854775807 else a + b
set_option maxRecDepth 100000 in
set_option maxHeartbeats 4000000 in
theorem plus_any (a b : Int) (w : World) (ha : 0 ≤ a) (ha2 : a ≤ 9223372036854775807) (hb : 0 ≤ b) (hb2 : b ≤ 9223372036854775807) : Calls Tryd.prog 38 #[.int .i64 a, .int .i64 b] w fun r w' => r = .returned (.int .i64 (plusN a b)) ∧ w = w' := by
  have e1 : wrap64 (9223372036854775807 - b) = 9223372036854775807 - b := by unfold wrap64; omega
  unfold plusN
  by_cases h : 9223372036854775807 - b < a
  · rw [if_pos h]
    go_enter Tryd.func38, Tryd.ntmps38
    go_wp2_with fail
    go_ret
    exact ⟨rfl, rfl⟩
  · rw [if_neg h]
    have h2 : a + b ≤ 9223372036854775807 := by omega
    go_enter Tryd.func38, Tryd.ntmps38
    go_wp2_with fail
    go_ret
    exact ⟨rfl, rfl⟩
set_option maxRecDepth 100000 in
set_option maxHeartbeats 4000000 in
theorem keep_any (n : Int) (w : World) : Calls Tryd.prog 66 #[.int .i64 n] w fun r w' => r = .returned (pv ⟨1, n, ByteArray.empty⟩) ∧ Below w.heap.size w w' := by
  go_enter Tryd.func66, Tryd.ntmps66
  go_wp2_with fail
  go_returns
  exact ⟨rfl, by go_grown⟩
set_option maxRecDepth 100000 in
set_option maxHeartbeats 4000000 in
theorem put_any (n : Int) (s : ByteArray) (w : World) : Calls Tryd.prog 90 #[.int .i64 n, .string s] w fun r w' => r = .returned (pv ⟨2, n, s⟩) ∧ Below w.heap.size w w' := by
  go_enter Tryd.func90, Tryd.ntmps90
  go_wp2_with fail
  go_returns
  exact ⟨rfl, by go_grown⟩
set_option maxRecDepth 100000 in
set_option maxHeartbeats 4000000 in
theorem drop_any (n : Int) (w : World) : Calls Tryd.prog 91 #[.int .i64 n] w fun r w' => r = .returned (pv ⟨3, n, ByteArray.empty⟩) ∧ Below w.heap.size w w' := by
  go_enter Tryd.func91, Tryd.ntmps91
  go_wp2_with fail
  go_returns
  exact ⟨rfl, by go_grown⟩
end Go.Proofs.YtonabfpgdgnpnaaDoor

namespace Go.Proofs.YtonabfpgdgnpnaaDoor
set_option linter.unusedVariables false
set_option linter.unusedSimpArgs false
open Go.ChangeShapes Go.WideShapes Go.ChangeAt Go.RowKit Go.Joins Go.Shelf

shelf_lay Lays.n197 Nm 197 at Tryd as Tryd.lays197
theorem fDec : Tryd.lays197_ren.f 197 = 61 := by kernel_rfl
/-- utf8's tables lie in the world -/
def UT (w : World) : Prop := Lib.Utf8Tabs (Tryd.lays197_ren.g 3) (Tryd.lays197_ren.g 4) w
theorem dec_any (s : ByteArray) (w : World) (hT : UT w) : Calls Tryd.prog 61 #[.string s] w fun e w' => e = .returned (.tuple #[.int .i32 (Lib.decodeGo s).1, .int .i64 (Lib.decodeGo s).2]) ∧ Below w.heap.size w w' := by
  have h := Any.utf8_DecodeRuneInString Tryd.lays197 s w hT
  rw [fDec] at h
  exact h
theorem UT.call {w w' : World} (h : UT w) (hb : Below w.heap.size w w') : UT w' := Utf8Tabs_below h hb
theorem extract_list (s : ByteArray) (a b : Nat) : (s.extract a b).data.toList = (s.data.toList.take b).drop a := by
  rw [ByteArray.data_extract, Array.toList_extract]
  simp [List.extract_eq_take_drop, List.take_drop]
  by_cases h : a ≤ b
  · rw [Nat.add_sub_cancel' h]
  · rw [show a + (b - a) = a by omega, List.drop_eq_nil_of_le (by simp; omega), List.drop_eq_nil_of_le (by simp; omega)]
theorem decGo_at (s : ByteArray) (pos : Nat) (h : pos < s.size) : Lib.decodeGo (s.extract pos s.size) = Utf8.decode s pos := by
  have e : (s.extract pos s.size).data.toList = s.data.toList.drop pos := by
    rw [extract_list, List.take_of_length_le (by rw [← Lib.size_eq]; exact Nat.le_refl _)]
  have hne : (s.extract pos s.size).size ≠ 0 := by
    rw [Lib.size_eq, e, List.length_drop, ← Lib.size_eq]; omega
  unfold Lib.decodeGo
  rw [if_neg hne, ← Lib.decodeL_drop, List.drop_zero, e, Lib.decodeL_drop]
theorem Tx.front {s : ByteArray} {cs : List (List UInt8)} (h : Tx s cs) (n : Nat) : Tx (s.extract 0 (placeOf cs n)) (cs.take n) :=
  ⟨h.cps.take n, by rw [extract_list, List.drop_zero]; exact take_place h n⟩
theorem Tx.back {s : ByteArray} {cs : List (List UInt8)} (h : Tx s cs) (n : Nat) : Tx (s.extract (placeOf cs n) s.size) (cs.drop n) :=
  ⟨h.cps.drop n, by rw [extract_list, List.take_of_length_le (by rw [← Lib.size_eq]; exact Nat.le_refl _)]; exact drop_place h n⟩
/-- how many code points are cut off -/
def cutK (n : Int) (cs : List (List UInt8)) : Nat := min n.toNat cs.length
set_option maxRecDepth 100000 in
set_option maxHeartbeats 4000000 in
theorem cut_any (s : ByteArray) (cs : List (List UInt8)) (n : Int) (w : World) (hT : UT w) (ht : Tx s cs) (hs : s.size ≤ 281474976710656) (hn : -9223372036854775808 ≤ n) (hn2 : n ≤ 9223372036854775807) :
    Calls Tryd.prog 41 #[.string s, .int .i64 n] w fun r w' => r = .returned (.tuple #[.string (s.extract 0 (placeOf cs (cutK n cs))), .string (s.extract (placeOf cs (cutK n cs)) s.size)]) ∧ Below w.heap.size w w' := by
  have HT := hide hT
  have HX := hide ht
  have HU := hide (ht.size)
  obtain ⟨sz, hsz⟩ : ∃ z, s.size = z := ⟨_, rfl⟩
  have hs' : sz ≤ 281474976710656 := by omega
  have hsI : (sz : Int) ≤ 281474976710656 := by omega
  have HSZ := hide hsz
  obtain ⟨K, hK⟩ : ∃ K, cutK n cs = K := ⟨_, rfl⟩
  rw [hK]
  have HK := hide hK
  clear hT ht hs hsz hK
  go_enter Tryd.func41, Tryd.ntmps41
  go_wp2_with fail
  go_loopw [1, 6] (fun nn at_ wr => ∃ k : Nat, k ≤ K ∧ nn = .int .i64 (n - (k : Int)) ∧ (∃ pk : Nat, at_ = .int .i64 (pk : Int) ∧ Hid (pk = placeOf cs k)) ∧ Hid (Below w.heap.size w wr)) (fun nn _ _ => (intOf nn).toNat)
  case atStart => exact ⟨0, by omega, by simp, ⟨0, by simp, hide (placeOf_zero cs).symm⟩, hide (Below.refl _ _)⟩
  case round =>
    obtain ⟨k, hk, rfl, ⟨pk, rfl, HP⟩, HB⟩ := hrel
    have hKdef : K = min n.toNat cs.length := (unhide HK).symm
    have hpkl : pk ≤ sz := by rw [unhide HP, ← unhide HSZ, unhide HU]; exact placeOf_le cs k
    by_cases hlt : k < K
    · have hkn : (k : Int) < n := by omega
      have hkc : k < cs.length := by omega
      obtain ⟨hnx, hin⟩ := placeOf_next (unhide HX) hkc
      rw [← unhide HP, unhide HSZ] at hin
      rw [← unhide HP] at hnx
      obtain ⟨d2, hd2⟩ : ∃ d, (Utf8.decode s pk).2 = d := ⟨_, rfl⟩
      obtain ⟨d1, hd1⟩ : ∃ d, (Utf8.decode s pk).1 = d := ⟨_, rfl⟩
      have hnl : pk + d2 ≤ sz := by rw [← hd2, ← hnx, ← unhide HSZ, unhide HU]; exact placeOf_le cs (k + 1)
      have HNX : Hid (pk + d2 = placeOf cs (k + 1)) := hide (by rw [hnx, hd2])
      have hge : decide (0 < n - (k : Int)) = true := by simp; omega
      have hin2 : decide ((pk : Int) < (sz : Int)) = true := by simp; omega
      have inI : (pk : Int) < (sz : Int) := by omega
      have inI2 : (pk : Int) ≤ (sz : Int) := by omega
      have geI : 0 < n - (k : Int) := by omega
      have HD : Hid (Calls Tryd.prog 61 #[.string (s.extract pk sz)] wr fun e w' => e = .returned (.tuple #[.int .i32 d1, .int .i64 d2]) ∧ Below wr.heap.size wr w') := hide (by
        have := dec_any (s.extract pk s.size) wr ((unhide HT).call (unhide HB))
        rw [decGo_at s pk (by rw [unhide HSZ]; exact hin), hd1, hd2, unhide HSZ] at this
        exact this)
      have hsz2 := unhide HSZ
      clear hnx hd2 hd1 hin hKdef
      go_wp2_with fail
      refine Calls.mono (unhide HD) ?_
      rintro r w2 ⟨rfl, hb2⟩
      have HB2 := hide ((unhide HB).trans (hb2.mono (unhide HB).size))
      clear hb2 HB HD HP
      go_wp2_with fail
      exact ⟨⟨k + 1, by omega, by simp; omega, ⟨pk + d2, by simp, HNX⟩, HB2⟩, by simp [intOf]; omega⟩
    · obtain rfl : K = k := by omega
      have hsz2 := unhide HSZ
      have HPE : Hid (placeOf cs K = pk) := hide (unhide HP).symm
      have pkI : (pk : Int) ≤ (sz : Int) := by omega
      by_cases hz : 0 < n - (K : Int)
      · have hpe : pk = sz := by
          have hKl : K = cs.length := by omega
          rw [unhide HP, ← unhide HSZ, unhide HU, hKl]
          unfold placeOf
          rw [List.take_of_length_le (Nat.le_refl _)]
        have hge : decide (0 < n - (K : Int)) = true := by simp; omega
        have hin2 : decide ((pk : Int) < (sz : Int)) = false := by simp; omega
        have inI : ¬ (pk : Int) < (sz : Int) := by omega
        clear hKdef HP hpe
        go_wp2_with fail
        go_quiet (fail)
        have HB2 := hide ((unhide HB).trans ((Joins.below_draws _ _ nq).mono (unhide HB).size))
        clear HB
        go_wp2_with fail
        go_ret2
        exact ⟨by rw [unhide HPE]; simp [hsz2], unhide HB2⟩
      · have hge : decide (0 < n - (K : Int)) = false := by simp; omega
        clear hKdef HP
        go_wp2_with fail
        go_quiet (fail)
        have HB2 := hide ((unhide HB).trans ((Joins.below_draws _ _ nq).mono (unhide HB).size))
        clear HB
        go_wp2_with fail
        go_ret2
        exact ⟨by rw [unhide HPE]; simp [hsz2], unhide HB2⟩
end Go.Proofs.YtonabfpgdgnpnaaDoor

namespace Go.Proofs.YtonabfpgdgnpnaaDoor
set_option linter.unusedVariables false
set_option linter.unusedSimpArgs false
open Go.ChangeShapes Go.WideShapes Go.ChangeAt Go.RowKit Go.Joins Go.Deep

/-- of the blocks that there were only those of p may have turned -/
structure Only (p : Nat → Prop) (w w' : World) : Prop where
  os : w'.os = w.os
  tape : w'.tape = w.tape
  output : w'.output = w.output
  size : w.heap.size ≤ w'.heap.size
  block : ∀ k, k < w.heap.size → ¬ p k → w'.heap[k]? = w.heap[k]?
theorem Only.refl (p : Nat → Prop) (w : World) : Only p w w := ⟨rfl, rfl, rfl, Nat.le_refl _, fun _ _ _ => rfl⟩
theorem Only.trans {p : Nat → Prop} {a b c : World} (h : Only p a b) (k : Only p b c) : Only p a c :=
  ⟨k.os.trans h.os, k.tape.trans h.tape, k.output.trans h.output, Nat.le_trans h.size k.size, fun i hi hn => (k.block i (Nat.lt_of_lt_of_le hi h.size) hn).trans (h.block i hi hn)⟩
/-- a second step may turn what is new besides -/
theorem Only.next {p q : Nat → Prop} {a b c : World} (h : Only p a b) (k : Only q b c) (hq : ∀ i, q i → p i ∨ a.heap.size ≤ i) : Only p a c :=
  ⟨k.os.trans h.os, k.tape.trans h.tape, k.output.trans h.output, Nat.le_trans h.size k.size, fun i hi hn => (k.block i (Nat.lt_of_lt_of_le hi h.size) (fun hqi => by rcases hq i hqi with h1 | h1; exact hn h1; omega)).trans (h.block i hi hn)⟩
theorem Only.mono {p q : Nat → Prop} {a b : World} (h : Only p a b) (hq : ∀ i, p i → q i) : Only q a b :=
  ⟨h.os, h.tape, h.output, h.size, fun i hi hn => h.block i hi (fun hp => hn (hq i hp))⟩
theorem Only.of_below {p : Nat → Prop} {a b : World} (h : Below a.heap.size a b) : Only p a b := ⟨h.os, h.tape, h.output, h.size, fun i hi _ => h.block i hi⟩
theorem Only.below {p : Nat → Prop} {a b : World} {B : Nat} (h : Only p a b) (hB : B ≤ a.heap.size) (hp : ∀ k, p k → B ≤ k) : Below B a b :=
  ⟨h.os, h.tape, h.output, h.size, fun i hi => h.block i (by omega) (fun hpi => by have := hp i hpi; omega)⟩
theorem Only.set {p : Nat → Prop} {a b : World} (h : Only p a b) (g i : Nat) (v : Value) (hg : p g) : Only p a (b.setCell ⟨g, i, none⟩ v) :=
  h.trans ⟨rfl, rfl, rfl, by simp [World.setCell], fun k hk hn => Below.heap_setCell _ _ _ _ (fun e => hn (e ▸ hg))⟩
theorem Only.drew {p : Nat → Prop} {a b : World} (h : Only p a b) : Only p a b.drew := h.trans ⟨rfl, rfl, rfl, Nat.le_refl _, fun _ _ _ => rfl⟩
theorem Only.cell {p : Nat → Prop} {a b : World} (h : Only p a b) {q : Addr} {v : Value} (hq : ¬ p q.block) (hv : a.cell? q = some v) : b.cell? q = some v := by
  rw [World.cell?_of_block (w := a) (h.block q.block (World.block_lt_of_cell? _ _ hv) hq)]; exact hv

/-- these cells are a block of their own -/
def RowAt (w : World) (g : Nat) (t : TypeId) (cs : List Value) : Prop := w.heap[g]? = some (.cells cs.toArray t (0, 0))
theorem RowAt.lt {w : World} {g : Nat} {t : TypeId} {cs : List Value} (h : RowAt w g t cs) : g < w.heap.size := by
  rcases Nat.lt_or_ge g w.heap.size with hlt | hge
  · exact hlt
  · rw [RowAt, Array.getElem?_eq_none hge] at h; cases h
theorem RowAt.cell {w : World} {g : Nat} {t : TypeId} {cs : List Value} (h : RowAt w g t cs) (i : Nat) : w.cell? ⟨g, i, none⟩ = cs[i]? := by
  rw [cell_of_row w g i _ t _ h]; simp
theorem RowAt.frozen {w : World} {g : Nat} {t : TypeId} {cs : List Value} (h : RowAt w g t cs) (i : Nat) : w.frozen? ⟨g, i, none⟩ = false := frozen_of_row w g i _ t h
theorem RowAt.set {w : World} {g : Nat} {t : TypeId} {cs : List Value} (h : RowAt w g t cs) (i : Nat) (v : Value) : RowAt (w.setCell ⟨g, i, none⟩ v) g t (cs.set i v) := by
  rw [RowAt, heap_setCell_same w g i _ t v h]; simp
theorem RowAt.drew {w : World} {g : Nat} {t : TypeId} {cs : List Value} (h : RowAt w g t cs) : RowAt w.drew g t cs := h
theorem RowAt.only {p : Nat → Prop} {w w' : World} {g : Nat} {t : TypeId} {cs : List Value} (h : RowAt w g t cs) (ho : Only p w w') (hg : ¬ p g) : RowAt w' g t cs := by
  rw [RowAt, ho.block g h.lt hg]; exact h
theorem RowAt.below {w w' : World} {g B : Nat} {t : TypeId} {cs : List Value} (h : RowAt w g t cs) (hb : Below B w w') (hg : g < B) : RowAt w' g t cs := by
  rw [RowAt, hb.block g hg]; exact h
theorem RowAt.new (w : World) (t : TypeId) (cs : List Value) : RowAt (w.alloc (.cells cs.toArray t)) w.heap.size t cs := heap_alloc_new w _

theorem size_alloc (w : World) (o : Obj) : (w.alloc o).heap.size = w.heap.size + 1 := by simp
theorem info_parts {t : TypeId} {z : Option Value} {s b : Nat} (h : (Tryd.prog.info? t).map (fun i => (i.zero, i.size, i.bytes)) = some (z, s, b)) : ∃ i, Tryd.prog.info? t = some i ∧ i.zero = z ∧ i.size = s ∧ i.bytes = b := by
  obtain ⟨i, hi, h2⟩ := Option.map_eq_some_iff.1 h
  obtain ⟨rfl, rfl, rfl⟩ : i.zero = z ∧ i.size = s ∧ i.bytes = b := by simpa using h2
  exact ⟨i, hi, rfl, rfl, rfl⟩
theorem grown_only {w w' : World} {row : Option Nat} (h : w.grownBy w' row) : Only (fun k => row = some k) w w' := ⟨h.os, h.tape, h.output, h.size, fun k hk hn => h.block k hk (fun e => hn e.symm)⟩
theorem own_only {p : Nat → Prop} {w w' : World} {b s n : Nat} {e : TypeId} {v : Value} {xs : List Value} (h : w.ownsRow b e s v n xs) (ho : Only p w w') (hp : ∀ k, v.ownBlock = some k → ¬ p k) : w'.ownsRow b e s v n xs := by
  obtain ⟨h1, h2⟩ := h
  refine ⟨h1, ?_⟩
  rcases h2 with h2 | ⟨g, cap, cur, e1, e2, e3, e4⟩
  · exact .inl h2
  · have hlt : g < w.heap.size := (Array.getElem?_eq_some_iff.1 e3).1
    exact .inr ⟨g, cap, cur, e1, e2, (ho.block g hlt (hp g (by rw [e1]; rfl))).trans e3, e4⟩
theorem own_call {w w' : World} {b s n : Nat} {e : TypeId} {v : Value} {xs : List Value} (h : w.ownsRow b e s v n xs) (hb : Below w.heap.size w w') : w'.ownsRow b e s v n xs :=
  own_only h (Only.of_below (p := fun _ => False) hb) (fun _ _ h => h)
theorem tag_ne {w : World} {b s n g : Nat} {e t : TypeId} {v : Value} {xs cs : List Value} (h : w.ownsRow b e s v n xs) (hr : RowAt w g t cs) (ht : e ≠ t) : v.ownBlock ≠ some g := by
  intro hk
  rcases h.2 with ⟨rfl, _⟩ | ⟨g', c, cur, rfl, _, e', _⟩
  · cases hk
  obtain rfl : g' = g := by simpa [Value.ownBlock] using hk
  unfold RowAt at hr
  rw [hr] at e'
  simp at e'
  exact ht e'.2.symm
theorem rtag {w : World} {g g' : Nat} {t t' : TypeId} {cs cs' : List Value} (h : RowAt w g t cs) (h' : RowAt w g' t' cs') (hne : t ≠ t') : g ≠ g' := by
  intro e
  subst e
  unfold RowAt at h h'
  rw [h] at h'
  simp at h'
  exact hne h'.2
end Go.Proofs.YtonabfpgdgnpnaaDoor

namespace Go.Proofs.YtonabfpgdgnpnaaDoor
set_option linter.unusedVariables false
set_option linter.unusedSimpArgs false
open Go.ChangeShapes Go.WideShapes Go.ChangeAt Go.RowKit Go.Joins Go.Deep

theorem info67 : ∃ j, Tryd.prog.info? 71 = some j ∧ j.size = 2 := by
  obtain ⟨j, hj, hs⟩ := Option.map_eq_some_iff.1 (show (Tryd.prog.info? 71).map (·.size) = some 2 by kernel_rfl)
  exact ⟨j, hj, hs⟩
theorem lies67 : liesAt Tryd.prog Tryd.prog.depth 119 (6 / Tryd.prog.cellsOf 119) 4 71 1 = true := by kernel_rfl
set_option maxRecDepth 100000 in
set_option maxHeartbeats 4000000 in
theorem check_used (g : Nat) (w : World) (h0 : w.cell? ⟨g, 4, none⟩ = some (.pointer (some ⟨g, 4, none⟩))) :
    Calls Tryd.prog 60 #[.pointer (some ⟨g, 4, none⟩)] w fun e w' => e = .returned (.tuple #[]) ∧ w = w' := by
  obtain ⟨j, hj, _⟩ := info67
  go_enter Tryd.func60, Tryd.ntmps60
  go_wp2
  rw [Lib.run_neq_ptr_same w _ Tryd.underlying68 hj]
  go_wp2
  go_end0
  exact ⟨rfl, rfl⟩
set_option maxRecDepth 100000 in
set_option maxHeartbeats 4000000 in
theorem check_fresh (g : Nat) (w : World) (cs : List Value) (hr : RowAt w g 119 cs) (hl : cs.length = 6) (h0 : w.cell? ⟨g, 4, none⟩ = some (.pointer none)) :
    Calls Tryd.prog 60 #[.pointer (some ⟨g, 4, none⟩)] w fun e w' => e = .returned (.tuple #[]) ∧ w' = w.setCell ⟨g, 4, none⟩ (.pointer (some ⟨g, 4, none⟩)) := by
  obtain ⟨j, hj, hjs⟩ := info67
  have hsh : w.shape? g = some (119, 6) := by unfold RowAt at hr; simp [World.shape?, hr, hl]
  have hfz : w.frozen? ⟨g, 4, none⟩ = false := hr.frozen 4
  go_enter Tryd.func60, Tryd.ntmps60
  go_wp2
  rw [Lib.run_to_unsafe w ⟨g, 4, none⟩ Tryd.underlying68 Tryd.underlying126 hj (by rw [hjs]; decide) hsh (show (4 : Nat) < 6 by decide)]
  simp only [Result.andThen]
  rw [Oper.upon_value]
  go_wp2
  rw [run_callFunc_extern Tryd.func79 (by kernel_rfl) (by kernel_rfl) (by kernel_rfl) (e := Extern.AbiNoEscape.same) (by kernel_rfl)]
  rw [Lib.run_noEscape]
  simp only [Result.andThen]
  rw [Oper.upon_value]
  go_wp2
  rw [Lib.run_from_unsafe w ⟨g, 4, none⟩ Tryd.underlying126 Tryd.underlying68 hj hsh lies67]
  simp only [Result.andThen]
  rw [Oper.upon_value]
  go_wp2
  go_end0
  exact ⟨rfl, rfl⟩
/-- a sheet's cells: the first four, the builder's own address or none, its bytes -/
def ownPtr (g : Nat) (v : Value) : Prop := v = .pointer none ∨ v = .pointer (some ⟨g, 4, none⟩)
set_option maxRecDepth 100000 in
set_option maxHeartbeats 4000000 in
theorem check_any84 (g : Nat) (w : World) (d0 d1 d2 d3 av bv : Value) (hr : RowAt w g 119 [d0, d1, d2, d3, av, bv]) (ha : ownPtr g av) :
    Calls Tryd.prog 60 #[.pointer (some ⟨g, 4, none⟩)] w fun e w' => e = .returned (.tuple #[]) ∧ RowAt w' g 119 [d0, d1, d2, d3, .pointer (some ⟨g, 4, none⟩), bv] ∧ Only (· = g) w w' := by
  rcases ha with rfl | rfl
  · refine Calls.mono (check_fresh g w _ hr rfl (hr.cell 4)) ?_
    rintro e w' ⟨rfl, rfl⟩
    exact ⟨rfl, hr.set 4 _, (Only.refl _ _).set g 4 _ rfl⟩
  · refine Calls.mono (check_used g w (hr.cell 4)) ?_
    rintro e w' ⟨rfl, rfl⟩
    exact ⟨rfl, hr, Only.refl _ _⟩
theorem infoByte : ∃ i, Tryd.prog.info? 5 = some i ∧ i.zero = some (.int .u8 0) ∧ i.size = 1 ∧ i.bytes = 1 := info_parts (by kernel_rfl)
set_option maxRecDepth 100000 in
set_option maxHeartbeats 4000000 in
theorem write_str (g : Nat) (w : World) (B : Nat) (d0 d1 d2 d3 av bv : Value) (bs : List Value) (s : ByteArray) (hr : RowAt w g 119 [d0, d1, d2, d3, av, bv]) (ha : ownPtr g av) (ho : w.ownsRow B 5 1 bv bs.length bs) (hlen : bs.length + s.size ≤ 140737488355328) (hB : B ≤ w.heap.size) :
    Calls Tryd.prog 40 #[.pointer (some ⟨g, 4, none⟩), .string s] w fun e w' => e = .returned (.tuple #[.int .i64 s.size, .nilIface]) ∧ ∃ bv', RowAt w' g 119 [d0, d1, d2, d3, .pointer (some ⟨g, 4, none⟩), bv'] ∧ w'.ownsRow B 5 1 bv' (bs.length + s.size) (bs ++ Lib.strCells s) ∧ Only (fun k => k = g ∨ bv.ownBlock = some k) w w' := by
  obtain ⟨i0, hi, hz0, hz1, hz2⟩ := infoByte
  have HC := hide (check_any84 g w d0 d1 d2 d3 av bv hr ha)
  have hne := tag_ne ho hr (by decide)
  have HO := hide ho
  have HNE := hide hne
  have HB := hide hB
  have HL := hide hlen
  clear hr ha ho hne hB hlen
  go_enter Tryd.func40, Tryd.ntmps40
  go_wp2_with fail
  refine Calls.mono (unhide HC) ?_
  rintro e w1 ⟨rfl, hr1, ho1⟩
  have hown1 := own_only (unhide HO) ho1 (fun k hk e => unhide HNE (e ▸ hk))
  have hB1 : B ≤ w1.heap.size := Nat.le_trans (unhide HB) ho1.size
  have HR1 := hide hr1
  have HO1 := hide ho1
  have HW1 := hide hown1
  have c4 : w1.cell? ⟨g, 4, none⟩ = some (.pointer (some ⟨g, 4, none⟩)) := hr1.cell 4
  have c5 : w1.cell? ⟨g, 5, none⟩ = some bv := hr1.cell 5
  clear HC HO hr1 ho1 hown1
  go_wp2_with (at_builtin; refine Lib.wpList_append_own_string _ rfl _ _ 69 9 rfl B 5 i0 Tryd.underlying69 Tryd.underlying9 hi hz0 hz1 hz2 _ _ _ rfl (unhide HW1) s rfl ?c3 ?c4 ?c5 ?_)
  case c3 => have := unhide HL; unfold maxLen; omega
  case c4 => exact unhide HL
  case c5 => exact hB1
  intro v' w2 hown' hgrow _
  have hr2 := (unhide HR1).only (grown_only hgrow) (fun e => unhide HNE e)
  have hon := (unhide HO1).mono (q := fun k => k = g ∨ bv.ownBlock = some k) (fun k h => .inl h) |>.trans ((grown_only hgrow).mono (fun k h => .inr h))
  have d4 : w2.cell? ⟨g, 4, none⟩ = some (.pointer (some ⟨g, 4, none⟩)) := hr2.cell 4
  have d5 : w2.cell? ⟨g, 5, none⟩ = some bv := hr2.cell 5
  have f5 : w2.frozen? ⟨g, 5, none⟩ = false := hr2.frozen 5
  obtain ⟨ao, n', cap, rfl⟩ : ∃ ao n' cap, v' = .slice ao n' cap := by
    rcases hown'.2 with ⟨hv, _⟩ | ⟨g, cap, cur, hv, _⟩
    · exact ⟨_, _, _, hv⟩
    · exact ⟨_, _, _, hv⟩
  have HON := hide hon
  have HR2 := hide hr2
  have HOW := hide hown'
  clear hon hr2 hown' hgrow HR1 HO1 HW1 c4 c5
  go_wp2_with fail
  go_ret2
  refine ⟨rfl, _, (unhide HR2).set 5 _, ?_, (unhide HON).set g 5 _ (.inl rfl)⟩
  refine own_only (unhide HOW) ((Only.refl (· = g) w2).set g 5 _ rfl) (fun k hk e => ?_)
  exact tag_ne (unhide HOW) (unhide HR2) (by decide) (e ▸ hk)
set_option maxRecDepth 100000 in
set_option maxHeartbeats 4000000 in
theorem reset_ok (g : Nat) (w : World) (d0 d1 d2 d3 av bv : Value) (hr : RowAt w g 119 [d0, d1, d2, d3, av, bv]) :
    Calls Tryd.prog 92 #[.pointer (some ⟨g, 4, none⟩)] w fun e w' => e = .returned (.tuple #[]) ∧ RowAt w' g 119 [d0, d1, d2, d3, .pointer none, .slice none 0 0] ∧ Only (· = g) w w' := by
  have c4 : w.cell? ⟨g, 4, none⟩ = some av := hr.cell 4
  have c5 : w.cell? ⟨g, 5, none⟩ = some bv := hr.cell 5
  have f4 : w.frozen? ⟨g, 4, none⟩ = false := hr.frozen 4
  have f5 : w.frozen? ⟨g, 5, none⟩ = false := hr.frozen 5
  have HR := hide hr
  clear hr
  go_enter Tryd.func92, Tryd.ntmps92
  go_wp2_with fail
  go_end0
  exact ⟨rfl, ((unhide HR).set 4 _).set 5 _, ((Only.refl (· = g) w).set g 4 _ rfl).set g 5 _ rfl⟩
theorem own_at {w : World} {B n : Nat} {v : Value} {xs : List Value} (h : w.ownsRow B 5 1 v n xs) (hn : n ≠ 0) : ∃ g cap cur, v = .slice (some ⟨g, 0, none⟩) n cap ∧ B ≤ g ∧ w.heap[g]? = some (.cells cur 5 (0, 0)) ∧ n ≤ cap ∧ cap ≤ maxLen ∧ cur.size = cap * 1 ∧ cur.toList.take (n * 1) = xs := by
  rcases h.2 with ⟨_, hz⟩ | ⟨g, cap, cur, hv, r⟩
  · exact absurd hz hn
  · exact ⟨g, cap, cur, hv, r⟩
set_option maxRecDepth 100000 in
set_option maxHeartbeats 4000000 in
theorem string_ok (g : Nat) (w : World) (B : Nat) (d0 d1 d2 d3 av bv : Value) (l : List UInt8) (hr : RowAt w g 119 [d0, d1, d2, d3, av, bv]) (ho : w.ownsRow B 5 1 bv l.length (Lib.byteCells l)) (h0 : l ≠ []) :
    Calls Tryd.prog 42 #[.pointer (some ⟨g, 4, none⟩)] w fun e w' => e = .returned (.string ⟨l.toArray⟩) ∧ Only (fun k => bv.ownBlock = some k) w w' := by
  have hl0 : l.length ≠ 0 := by simpa using h0
  obtain ⟨q, cap, cur, rfl, hbg, hg, hnc, hcm, hcs, htake⟩ := own_at ho hl0
  have c5 : w.drew.cell? ⟨g, 5, none⟩ = some (.slice (some ⟨q, 0, none⟩) l.length cap) := hr.drew.cell 5
  have hSD : (Builtin.unsafeSliceData_ #[69] 100 #[.slice (some ⟨q, 0, none⟩) l.length cap]).run Tryd.prog w.drew = .ok (.pointer (some ⟨q, 0, none⟩)) w.drew :=
    Lib.run_unsafeSliceData_row _ _ _ _ _ _ (by omega)
  have hUS : (Builtin.unsafeString_ #[100, 3] 9 #[.pointer (some ⟨q, 0, none⟩), .int .i64 l.length]).run Tryd.prog w.drew = .ok (.string ⟨l.toArray⟩) (w.drew.freeze ⟨q, 0, none⟩ l.length) := by
    refine Lib.run_unsafeString_row w.drew 100 3 9 5 Tryd.underlying100 (by kernel_rfl) q cur.size (by have hg' : w.drew.heap[q]? = some (.cells cur 5 (0, 0)) := hg; simp [World.shape?, hg']) l h0 (by omega) (by unfold maxLen at hcm; omega) ?_
    intro j x hx
    have := ho.cells (g := q) rfl j (.int .u8 x.toNat) (by simp [Lib.byteCells, hx])
    exact this
  have hB := Lib.below_freeze (Below.drew (Below.refl q w)) (p := ⟨q, 0, none⟩) (Nat.le_refl _) l.length
  have hon : Only (fun k => (Value.slice (some ⟨q, 0, none⟩) l.length cap).ownBlock = some k) w (w.drew.freeze ⟨q, 0, none⟩ l.length) := by
    unfold World.freeze
    split
    · exact (Only.refl _ _).drew
    · exact ⟨rfl, rfl, rfl, by simp, fun k hk hn => by
        simp only [Array.getElem?_modify]
        rw [if_neg (fun e => hn (by simp [Value.ownBlock, e]))]
        rfl⟩
  have HON := hide hon
  clear hr ho hg htake hon hB
  go_enter Tryd.func42, Tryd.ntmps42
  go_wp2
  go_region
  all_goals (go_wp2; go_ret; exact ⟨rfl, unhide HON⟩)
end Go.Proofs.YtonabfpgdgnpnaaDoor

namespace Go.Proofs.YtonabfpgdgnpnaaDoor
set_option linter.unusedVariables false
set_option linter.unusedSimpArgs false

section
variable {P : Program} {ops : Array Oper} {Q : Exit → Act → World → Prop} {md : Region.Mode} {S : World → Prop} {hd : Nat → Bool}

def wpAnyT (P : Program) (md : Region.Mode) (ops : Array Oper) (Q : Exit → Act → World → Prop) (S : World → Prop) (hd : Nat → Bool) : Nat → Array Bool → Act → World → Prop
  | 0, listed, a, w => Region.ready md ops listed = [] ∧ Q .normal a w
  | fuel + 1, listed, a, w =>
    (Region.ready md ops listed = [] → Q .normal a w) ∧
    ∀ i ∈ Region.ready md ops listed, wpOp P ops Q i (fun a' w' => (hd i = true → S w') ∧ wpAnyT P md ops Q S hd fuel (listed.setIfInBounds i true) a' w') a w
theorem wpAny_of_T : ∀ (fuel : Nat) (listed : Array Bool) (a : Act) (w : World), wpAnyT P md ops Q S hd fuel listed a w → wpAny P md ops Q fuel listed a w
  | 0, _, _, _, h => h
  | fuel + 1, _, _, _, h => ⟨h.1, fun i hi => wpOp_mono (fun a' w' h' => wpAny_of_T fuel _ a' w' h'.2) (h.2 i hi)⟩
/-- j waits for i, at once or through another one -/
def waits2 (md : Region.Mode) (ops : Array Oper) (j i : Nat) : Bool := Region.waitsFor md ops j i || (List.range ops.size).any fun k => Region.waitsFor md ops j k && Region.waitsFor md ops k i
/-- what has come up did so behind what it waited for -/
def closedB (md : Region.Mode) (ops : Array Oper) (listed : Array Bool) : Bool := (List.range ops.size).all fun k => !listed.getD k false || (List.range ops.size).all fun i => !Region.waitsFor md ops k i || listed.getD i false
/-- whatever has not come up, and behind which nothing is asked, waits for i -/
def tailWaits (md : Region.Mode) (ops : Array Oper) (hd : Nat → Bool) (listed : Array Bool) (i : Nat) : Bool := (List.range ops.size).all fun j => hd j || listed.getD j true || waits2 md ops j i
theorem waits_lt {j i : Nat} (h : Region.waitsFor md ops j i = true) : j < ops.size := by
  obtain ⟨o, ho, _⟩ := Region.waitsFor_spec h
  rcases Nat.lt_or_ge j ops.size with h' | h'
  · exact h'
  · rw [Array.getElem?_eq_none h'] at ho; cases ho
theorem closed_at {k i : Nat} {listed : Array Bool} (h : closedB md ops listed = true) (hi : i < ops.size) (hk : listed.getD k false = true) (hw : Region.waitsFor md ops k i = true) : listed.getD i false = true := by
  have := List.all_eq_true.1 h k (List.mem_range.2 (waits_lt hw))
  rw [hk] at this
  simp only [Bool.not_true, Bool.false_or] at this
  have := List.all_eq_true.1 this i (List.mem_range.2 hi)
  rw [hw] at this
  simpa using this
theorem getD_set_up {listed : Array Bool} {x j : Nat} (h : listed.getD x false = true) : (listed.setIfInBounds j true).getD x false = true := by
  by_cases hjx : j = x
  · subst hjx
    rcases Nat.lt_or_ge j listed.size with h' | h'
    · simp [h']
    · simp [Array.getElem?_eq_none h'] at h
  · rw [getD_set_ne false hjx]; exact h
theorem waits_listed {j i : Nat} {oj : Oper} {listed : Array Bool} (hj : ops[j]? = some oj) (hall : ∀ e ∈ oj.after, Region.binds md e = true → listed.getD e.on false = true) (hw : Region.waitsFor md ops j i = true) : listed.getD i false = true := by
  obtain ⟨o, ho, e, he, hb, hon⟩ := Region.waitsFor_spec hw
  rw [hj] at ho
  obtain rfl := Option.some.inj ho
  rw [← hon]
  exact hall e he hb
theorem closed_set {j : Nat} {oj : Oper} {listed : Array Bool} (h : closedB md ops listed = true) (hj : ops[j]? = some oj) (hall : ∀ e ∈ oj.after, Region.binds md e = true → listed.getD e.on false = true) : closedB md ops (listed.setIfInBounds j true) = true := by
  refine List.all_eq_true.2 fun k hk => ?_
  cases hl : (listed.setIfInBounds j true).getD k false with
  | false => rfl
  | true =>
    simp only [Bool.not_true, Bool.false_or]
    refine List.all_eq_true.2 fun i hi => ?_
    cases hw : Region.waitsFor md ops k i with
    | false => rfl
    | true =>
      simp only [Bool.not_true, Bool.false_or]
      refine getD_set_up ?_
      by_cases hjk : j = k
      · subst hjk; exact waits_listed hj hall hw
      · rw [getD_set_ne false hjk] at hl
        exact closed_at h (List.mem_range.1 hi) hl hw
theorem tailWaits_hd {i j : Nat} {oj : Oper} {listed : Array Bool} (hc : closedB md ops listed = true) (h : tailWaits md ops hd listed i = true) (hj : ops[j]? = some oj) (hun : listed.getD j true = false) (hall : ∀ e ∈ oj.after, Region.binds md e = true → listed.getD e.on false = true) (hii : i < ops.size) (hi : listed.getD i false = false) : hd j = true := by
  have hlt : j < ops.size := by
    rcases Nat.lt_or_ge j ops.size with h' | h'
    · exact h'
    · rw [Array.getElem?_eq_none h'] at hj; cases hj
  have := List.all_eq_true.1 h j (List.mem_range.2 hlt)
  simp only [Bool.or_eq_true, hun, Bool.false_eq_true, or_false] at this
  rcases this with this | this
  · exact this
  · exfalso
    simp only [waits2, Bool.or_eq_true, List.any_eq_true, Bool.and_eq_true] at this
    rcases this with this | ⟨k, hk, h1, h2⟩
    · rw [waits_listed hj hall this] at hi; cases hi
    · rw [closed_at hc hii (waits_listed hj hall h1) h2] at hi; cases hi
theorem tailWaits_set {i j : Nat} {listed : Array Bool} (h : tailWaits md ops hd listed i = true) : tailWaits md ops hd (listed.setIfInBounds j true) i = true := by
  refine List.all_eq_true.2 fun k hk => ?_
  have := List.all_eq_true.1 h k hk
  simp only [Bool.or_eq_true] at this ⊢
  rcases this with (h1 | h1) | h1
  · exact .inl (.inl h1)
  · refine .inl (.inr ?_)
    by_cases hjk : j = k
    · subst hjk
      rcases Nat.lt_or_ge j listed.size with h' | h'
      · simp [h']
      · simp [Array.getElem?_eq_none h', h']
    · rw [getD_set_ne true hjk]; exact h1
  · exact .inr h1
theorem ready_no {i : Nat} {oj : Oper} {listed : Array Bool} (hr : i ∈ Region.ready md ops listed) (hall : ∀ e ∈ oj.after, Region.binds md e = true → listed.getD e.on false = true) : ∀ e ∈ oj.after, Region.binds md e = true → e.on ≠ i := by
  intro d hd hb heq
  have g1 := hall d hd hb
  have g0 := (mem_ready.1 hr).1
  rw [heq] at g1
  rcases Nat.lt_or_ge i listed.size with h' | h'
  · simp [h'] at g0 g1; rw [g0] at g1; cases g1
  · simp [Array.getElem?_eq_none h'] at g1
/-- taken first: what yields under S, if all else waits for it or keeps S -/
theorem wpAnyT_first {i : Nat} {oi : Oper} {v : Value} (S' : World → Prop) (hi : ops[i]? = some oi) (hsel : ∀ (j : Nat) (o : Oper) cs b, ops[j]? = some o → o.op ≠ .select cs b)
    (hQ : ∀ c a w, Q (.panic c) (a.put oi.dst v) w → Q (.panic c) a w) :
    ∀ (fuel : Nat) (listed : Array Bool) (a : Act) (w : World), ((∀ w, S w → S' w) ∧ tailWaits md ops hd listed i = true ∧ closedB md ops listed = true ∨ (∀ w, S' w) ∧ hd i = false) →
      (∀ j oj, ops[j]? = some oj → j ≠ i → listed.getD j true = false → (∀ e ∈ oj.after, Region.binds md e = true → e.on ≠ i) → oi.apart ops oj = true) →
      i ∈ Region.ready md ops listed → YieldsIf P ops S' oi v a → (hd i = true → S w) → S' w →
      wpAnyT P md ops Q S hd fuel (listed.setIfInBounds i true) (a.put oi.dst v) w → wpAnyT P md ops Q S hd (fuel + 1) listed a w := by
  intro fuel
  induction fuel with
  | zero =>
    intro listed a w _ _ hr hy hS hS' H
    refine ⟨fun h => (by rw [h] at hr; cases hr), fun j hj => ?_⟩
    by_cases e : j = i
    · subst e; exact hy.wpOp hi hS' ⟨hS, H⟩
    · have hx := ready_mono hj e
      rw [H.1] at hx
      cases hx
  | succ fuel ih =>
    intro listed a w hT hap hr hy hS hS' H
    refine ⟨fun h => (by rw [h] at hr; cases hr), fun j hj => ?_⟩
    by_cases e : j = i
    · subst e; exact hy.wpOp hi hS' ⟨hS, H⟩
    · obtain ⟨un, oj, hoj, hall⟩ := mem_ready.1 hj
      have hno := ready_no hr hall
      have step := wpOp_putIf hoj (hap j oj hoj e un hno) (fun cs b => hsel i oi cs b hi) (fun cs b => hsel j oj cs b hoj) hQ hy (H.2 j (ready_mono hj e))
      have hap' : ∀ k ok, ops[k]? = some ok → k ≠ i → (listed.setIfInBounds j true).getD k true = false → (∀ e ∈ ok.after, Region.binds md e = true → e.on ≠ i) → oi.apart ops ok = true := by
        intro k ok hk hki hun hno'
        refine hap k ok hk hki ?_ hno'
        by_cases hjk : j = k
        · subst hjk; exact un
        · rw [getD_set_ne true hjk] at hun; exact hun
      refine wpOp_mono (fun a' w' g => ⟨g.2.1, ?_⟩) step
      have H' := g.2.2
      rw [← Array.setIfInBounds_comm _ _ e] at H'
      rcases hT with ⟨h1, h2, h3⟩ | ⟨h1, h2⟩
      · have hs := g.2.1 (tailWaits_hd h3 h2 hoj un hall (by
          rcases Nat.lt_or_ge i ops.size with h' | h'
          · exact h'
          · rw [Array.getElem?_eq_none h'] at hi; cases hi) (getD_both (mem_ready.1 hr).1))
        exact ih _ a' w' (.inl ⟨h1, tailWaits_set h2, closed_set h3 hoj hall⟩) hap' (ready_mono hr (Ne.symm e)) g.1 (fun _ => hs) (h1 _ hs) H'
      · exact ih _ a' w' (.inr ⟨h1, h2⟩) hap' (ready_mono hr (Ne.symm e)) g.1 (fun h => by rw [h2] at h; cases h) (h1 _) H'
theorem wpAnyT_take {i : Nat} {oi : Oper} {v : Value} {fuel : Nat} {listed : Array Bool} {a : Act} {w : World} (hi : ops[i]? = some oi)
    (hs : Region.noSelect ops = true) (hf : Region.free md ops listed i = true) (hr : (Region.ready md ops listed).contains i = true) (hT : (tailWaits md ops hd listed i && closedB md ops listed) = true)
    (hQ : ∀ c a w, Q (.panic c) (a.put oi.dst v) w → Q (.panic c) a w) (hy : YieldsIf P ops S oi v a) (hS : S w)
    (h : wpAnyT P md ops Q S hd fuel (listed.setIfInBounds i true) (a.put oi.dst v) w) : wpAnyT P md ops Q S hd (fuel + 1) listed a w :=
  wpAnyT_first S hi (Region.noSelect_spec hs) hQ fuel listed a w (.inl ⟨fun _ h => h, (Bool.and_eq_true _ _ ▸ hT).1, (Bool.and_eq_true _ _ ▸ hT).2⟩) (Region.free_spec hi hf) (by simpa using hr) hy (fun _ => hS) hS h
/-- what yields whatever the world -/
theorem wpAnyT_pure {i : Nat} {oi : Oper} {v : Value} {fuel : Nat} {listed : Array Bool} {a : Act} {w : World} (hi : ops[i]? = some oi)
    (hs : Region.noSelect ops = true) (hf : Region.free md ops listed i = true) (hr : (Region.ready md ops listed).contains i = true) (hT : hd i = false)
    (hQ : ∀ c a w, Q (.panic c) (a.put oi.dst v) w → Q (.panic c) a w) (hy : YieldsIf P ops (fun _ => True) oi v a)
    (h : wpAnyT P md ops Q S hd fuel (listed.setIfInBounds i true) (a.put oi.dst v) w) : wpAnyT P md ops Q S hd (fuel + 1) listed a w :=
  wpAnyT_first (fun _ => True) hi (Region.noSelect_spec hs) hQ fuel listed a w (.inr ⟨fun _ => trivial, hT⟩) (Region.free_spec hi hf) (by simpa using hr) hy (fun h => by rw [hT] at h; cases h) trivial h
/-- what alone may come up -/
theorem wpAnyT_one {i : Nat} {o : Oper} {fuel : Nat} {listed : Array Bool} {a : Act} {w : World} (hr : Region.ready md ops listed = [i]) (ho : ops[i]? = some o)
    (h : ∀ K' : Act → World → Prop, Shut (∀ a w, (hd i = true → S w) → wpAnyT P md ops Q S hd fuel (listed.setIfInBounds i true) a w → K' a w) → if Region.wanted o (yielded ops a.tmps) = true then Oper.wp P o a w K' Q else K' (a.put o.dst undef) w) :
    wpAnyT P md ops Q S hd (fuel + 1) listed a w := by
  refine ⟨fun h0 => absurd (hr ▸ h0) (by simp), fun j hj => ?_⟩
  rw [hr] at hj
  obtain rfl := List.mem_singleton.1 hj
  exact wpOp_step ho (fun K' hK => h K' (fun a w hS hW => hK a w ⟨hS, hW⟩))
theorem wpAnyT_done {listed : Array Bool} {a : Act} {w : World} (hr : Region.ready md ops listed = []) (h : Q .normal a w) : ∀ fuel, wpAnyT P md ops Q S hd fuel listed a w
  | 0 => ⟨hr, h⟩
  | _ + 1 => ⟨fun _ => h, by rw [hr]; simp⟩
theorem wp_region_T {id : Nat} {a : Act} {w : World} (hd : Nat → Bool) (hm : P.follows .mixedOrders = true) (hS : S w.drew)
    (h : S w.drew → wpAnyT P .any ops Q S hd ops.size (Array.replicate ops.size false) a w.drew) : (Code.region id ops true).wp P Q a w :=
  wp_region_any hm (wpAny_of_T _ _ _ _ (h hS))
/-- the i-th operation comes up -/
theorem tk (i : Nat) {oi : Oper} {v : Value} {fuel : Nat} {listed : Array Bool} {a : Act} {w : World} (hi : ops.toList[i]? = some oi)
    (hy : YieldsIf P ops S oi v a) (hS : S w)
    (h : wpAnyT P md ops Q S hd fuel (listed.setIfInBounds i true) (a.put oi.dst v) w)
    (hs : Region.noSelect ops = true := by kernel_rfl) (hf : Region.free md ops listed i = true := by kernel_rfl) (hr : (Region.ready md ops listed).contains i = true := by kernel_rfl) (hT : (tailWaits md ops hd listed i && closedB md ops listed) = true := by kernel_rfl)
    (hQ : ∀ c a w, Q (.panic c) (a.put oi.dst v) w → Q (.panic c) a w := by exact fun _ _ _ h => h) : wpAnyT P md ops Q S hd (fuel + 1) listed a w :=
  wpAnyT_take (by rw [← Array.getElem?_toList]; exact hi) hs hf hr hT hQ hy hS h
end
end Go.Proofs.YtonabfpgdgnpnaaDoor
