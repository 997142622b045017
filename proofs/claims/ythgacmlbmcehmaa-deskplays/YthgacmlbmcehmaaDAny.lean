/- What a desk that New made answers, and how it then stands, whatever is asked. -/
import Derived.Test.YthgacmlbmcehmaaDTick
namespace Go.Proofs.Ythgacmlbmcehmaa
set_option linter.unusedVariables false
set_option linter.unusedSimpArgs false
open Go.ChangeShapes Go.WideShapes Go.ChangeAt Go.RowKit Go.Joins Go.Deep

/-- what a guest may be -/
structure Gin (nq : Nat) (x : Gst) : Prop where
  ok : Gok x
  lab : ∃ lb : Nat, x.label = (lb : Int) ∧ lb < nq
/-- a desk with its seats -/
structure Ds (w : World) (g gg c nq : Nat) (sv : Value) (ex : List Value) (Q : Nat → Int) (D : List Gst) : Prop where
  dk : Dk w g gg c sv ex D
  sq : Sq w sv nq Q
  gin : ∀ x ∈ D, Gin nq x
  n32 : nq ≤ 32
theorem Ds.call {w : World} {g gg c nq : Nat} {sv : Value} {ex : List Value} {Q : Nat → Int} {D : List Gst} {w' : World} (h : Ds w g gg c nq sv ex Q D) (hb : Below w.heap.size w w') : Ds w' g gg c nq sv ex Q D := ⟨h.dk.call hb, h.sq.call hb, h.gin, h.n32⟩
theorem Ds.turn {w : World} {g gg c nq : Nat} {sv : Value} {ex : List Value} {Q : Nat → Int} {D : List Gst} {w' : World} {i : Nat} {y : Gst} (h : Ds w g gg c nq sv ex Q D) (hd : Dk w' g gg c sv ex (D.set i y)) (ho : Only (· = gg) w w') (hy : Gin nq y) : Ds w' g gg c nq sv ex Q (D.set i y) :=
  ⟨hd, h.sq.turn h.dk ho, fun x hx => (List.mem_or_eq_of_mem_set hx).elim (h.gin x) (fun e => e ▸ hy), h.n32⟩
def gAt (D : List Gst) (who : Int) : Option Gst := if who < 0 then none else D[who.toNat]?
theorem gAt_none {D : List Gst} {who : Int} (h : gAt D who = none) : who < 0 ∨ (D.length : Int) ≤ who := by
  unfold gAt at h
  split at h
  · exact .inl (by assumption)
  · have := List.getElem?_eq_none_iff.1 h; omega
theorem gAt_some {D : List Gst} {who : Int} {x : Gst} (h : gAt D who = some x) : ∃ i : Nat, who = (i : Int) ∧ D[i]? = some x ∧ who.toNat = i := by
  unfold gAt at h
  split at h
  · cases h
  · exact ⟨who.toNat, by omega, h, rfl⟩
def beginD (D : List Gst) (who q : Int) : List Gst × Int := match gAt D who with
  | none => (D, 1)
  | some x => if knockE x q = (true, 0) then (D.set who.toNat ⟨x.label, q, false, 0, 0, 0⟩, 0) else (D, if (knockE x q).2 = 0 then 130 else (knockE x q).2)
def wrongD (D : List Gst) (who : Int) : List Gst × Int := match gAt D who with
  | none => (D, 1)
  | some x => if 0 < x.locked then (D, 170) else (D.set who.toNat (wrongG x), 0)
def openD (Q : Nat → Int) (D : List Gst) (who : Int) : List Gst × Int := match gAt D who with
  | none => (D, 1)
  | some x => if x.conn = 0 then (D, 172) else if x.opn = true then (D, 0) else if Q x.label.toNat ≤ (seatsN D x.label : Int) then (D, 171) else (D.set who.toNat { x with opn := true, silent := 0 }, 0)
def heardD (D : List Gst) (who : Int) : List Gst × Int := match gAt D who with
  | none => (D, 1)
  | some x => if x.opn = true then (D.set who.toNat { x with silent := 0 }, 0) else (D, 172)
def shutD (D : List Gst) (who : Int) : List Gst × Int := match gAt D who with
  | none => (D, 1)
  | some x => if x.opn = true then (D.set who.toNat { x with opn := false }, 0) else (D, 172)
theorem knock_bounds {x : Gst} {q : Int} (h : knockE x q = (true, 0)) : 1 ≤ q ∧ q ≤ 1099511627776 := by
  unfold knockE at h
  split at h
  · cases h
  · omega
theorem Ds.no {w : World} {g gg c nq : Nat} {sv : Value} {ex : List Value} {Q : Nat → Int} {D : List Gst} (h : Ds w g gg c nq sv ex Q D) {who : Int} (ha : gAt D who = none) : NoG (.pointer (some ⟨g, 0, none⟩)) who w 1 := find_arg g gg c sv ex D w h.dk who (gAt_none ha)
theorem begin_any {w : World} {g gg c nq : Nat} {sv : Value} {ex : List Value} {Q : Nat → Int} {D : List Gst} (h : Ds w g gg c nq sv ex Q D) (who q : Int) : Calls Try.prog 31 #[.pointer (some ⟨g, 0, none⟩), .int .i64 who, .int .i64 q] w fun r w' => r = .returned (.int .i64 (beginD D who q).2) ∧ Ds w' g gg c nq sv ex Q (beginD D who q).1 ∧ Only (· = gg) w w' := by
  unfold beginD
  cases ha : gAt D who with
  | none =>
    refine Calls.mono (begin_bad _ who q 1 w rfl (h.no ha)) ?_
    rintro r w' ⟨rfl, rfl⟩
    exact ⟨rfl, h, Only.refl _ _⟩
  | some x =>
    obtain ⟨i, rfl, hx, ht⟩ := gAt_some ha
    by_cases hq : knockE x q = (true, 0)
    · simp only [hq, if_true, ht]
      refine Calls.mono (begin_ok g gg c sv ex D w h.dk i x q hx hq) ?_
      rintro r w' ⟨rfl, hd, ho⟩
      have hb := knock_bounds hq
      refine ⟨rfl, h.turn hd ho ⟨⟨by simp, by simp, by simp, by simp, by simp, by simp, by simp, by simp; omega, by simp; omega⟩, (h.gin x (List.mem_of_getElem? hx)).lab⟩, ho⟩
    · simp only [hq, if_false]
      refine Calls.mono (begin_no g gg c sv ex D w h.dk i x q hx hq) ?_
      rintro r w' ⟨rfl, rfl⟩
      exact ⟨rfl, h, Only.refl _ _⟩
theorem wrong_gok {x : Gst} (h : Gok x) : Gok (wrongG x) := by
  have a := h.w0; have b := h.w1
  unfold wrongG
  split
  · exact ⟨by simp, by simp, h.s0, h.s1, h.s2, by simp, by simp, h.c0, h.c1⟩
  · exact ⟨by simp; omega, by simp; omega, h.s0, h.s1, h.s2, h.l0, h.l1, h.c0, h.c1⟩
theorem wrong_label (x : Gst) : (wrongG x).label = x.label := by unfold wrongG; split <;> rfl
theorem wrong_any {w : World} {g gg c nq : Nat} {sv : Value} {ex : List Value} {Q : Nat → Int} {D : List Gst} (h : Ds w g gg c nq sv ex Q D) (who : Int) : Calls Try.prog 32 #[.pointer (some ⟨g, 0, none⟩), .int .i64 who] w fun r w' => r = .returned (.int .i64 (wrongD D who).2) ∧ Ds w' g gg c nq sv ex Q (wrongD D who).1 ∧ Only (· = gg) w w' := by
  unfold wrongD
  cases ha : gAt D who with
  | none =>
    refine Calls.mono (wrong_bad _ who 1 w rfl (h.no ha)) ?_
    rintro r w' ⟨rfl, rfl⟩
    exact ⟨rfl, h, Only.refl _ _⟩
  | some x =>
    obtain ⟨i, rfl, hx, ht⟩ := gAt_some ha
    have hg := h.gin x (List.mem_of_getElem? hx)
    by_cases hl : 0 < x.locked
    · simp only [hl, if_true]
      refine Calls.mono (wrong_locked g gg c sv ex D w h.dk i x hx hl) ?_
      rintro r w' ⟨rfl, rfl⟩
      exact ⟨rfl, h, Only.refl _ _⟩
    · simp only [hl, if_false, ht]
      refine Calls.mono (wrong_ok g gg c sv ex D w h.dk i x hx hg.ok hl) ?_
      rintro r w' ⟨rfl, hd, ho⟩
      exact ⟨rfl, h.turn hd ho ⟨wrong_gok hg.ok, by rw [wrong_label]; exact hg.lab⟩, ho⟩
theorem heard_any {w : World} {g gg c nq : Nat} {sv : Value} {ex : List Value} {Q : Nat → Int} {D : List Gst} (h : Ds w g gg c nq sv ex Q D) (who : Int) : Calls Try.prog 35 #[.pointer (some ⟨g, 0, none⟩), .int .i64 who] w fun r w' => r = .returned (.int .i64 (heardD D who).2) ∧ Ds w' g gg c nq sv ex Q (heardD D who).1 ∧ Only (· = gg) w w' := by
  unfold heardD
  cases ha : gAt D who with
  | none =>
    refine Calls.mono (heard_bad _ who 1 w rfl (h.no ha)) ?_
    rintro r w' ⟨rfl, rfl⟩
    exact ⟨rfl, h, Only.refl _ _⟩
  | some x =>
    obtain ⟨i, rfl, hx, ht⟩ := gAt_some ha
    have hg := h.gin x (List.mem_of_getElem? hx)
    cases hl : x.opn with
    | true =>
      simp only [hl, if_true, ht]
      refine Calls.mono (heard_in g gg c sv ex D w h.dk i x hx hl) ?_
      rintro r w' ⟨rfl, hd, ho⟩
      have k := hg.ok
      exact ⟨rfl, by simpa [hl] using h.turn hd ho ⟨⟨k.w0, k.w1, by simp, by simp, by simp, k.l0, k.l1, k.c0, k.c1⟩, hg.lab⟩, ho⟩
    | false =>
      simp only [hl, Bool.false_eq_true, if_false]
      refine Calls.mono (heard_out g gg c sv ex D w h.dk i x hx hl) ?_
      rintro r w' ⟨rfl, rfl⟩
      exact ⟨rfl, h, Only.refl _ _⟩
theorem shut_any {w : World} {g gg c nq : Nat} {sv : Value} {ex : List Value} {Q : Nat → Int} {D : List Gst} (h : Ds w g gg c nq sv ex Q D) (who : Int) : Calls Try.prog 41 #[.pointer (some ⟨g, 0, none⟩), .int .i64 who] w fun r w' => r = .returned (.int .i64 (shutD D who).2) ∧ Ds w' g gg c nq sv ex Q (shutD D who).1 ∧ Only (· = gg) w w' := by
  unfold shutD
  cases ha : gAt D who with
  | none =>
    refine Calls.mono (shut_bad _ who 1 w rfl (h.no ha)) ?_
    rintro r w' ⟨rfl, rfl⟩
    exact ⟨rfl, h, Only.refl _ _⟩
  | some x =>
    obtain ⟨i, rfl, hx, ht⟩ := gAt_some ha
    have hg := h.gin x (List.mem_of_getElem? hx)
    cases hl : x.opn with
    | true =>
      simp only [hl, if_true, ht]
      refine Calls.mono (shut_in g gg c sv ex D w h.dk i x hx hl) ?_
      rintro r w' ⟨rfl, hd, ho⟩
      have k := hg.ok
      exact ⟨rfl, h.turn hd ho ⟨⟨k.w0, k.w1, k.s0, k.s1, by simp, k.l0, k.l1, k.c0, k.c1⟩, hg.lab⟩, ho⟩
    | false =>
      simp only [hl, Bool.false_eq_true, if_false]
      refine Calls.mono (shut_out g gg c sv ex D w h.dk i x hx hl) ?_
      rintro r w' ⟨rfl, rfl⟩
      exact ⟨rfl, h, Only.refl _ _⟩
theorem open_any {w : World} {g gg c nq : Nat} {sv : Value} {ex : List Value} {Q : Nat → Int} {D : List Gst} (h : Ds w g gg c nq sv ex Q D) (who : Int) : Calls Try.prog 34 #[.pointer (some ⟨g, 0, none⟩), .int .i64 who] w fun r w' => r = .returned (.int .i64 (openD Q D who).2) ∧ Ds w' g gg c nq sv ex Q (openD Q D who).1 ∧ Only (· = gg) w w' := by
  unfold openD
  cases ha : gAt D who with
  | none =>
    refine Calls.mono (open_bad _ who 1 w rfl (h.no ha)) ?_
    rintro r w' ⟨rfl, rfl⟩
    exact ⟨rfl, h, Only.refl _ _⟩
  | some x =>
    obtain ⟨i, rfl, hx, ht⟩ := gAt_some ha
    have hg := h.gin x (List.mem_of_getElem? hx)
    by_cases hc : x.conn = 0
    · simp only [hc, if_true]
      refine Calls.mono (open_shut g gg c sv ex D w h.dk i x hx hc) ?_
      rintro r w' ⟨rfl, rfl⟩
      exact ⟨rfl, h, Only.refl _ _⟩
    cases hl : x.opn with
    | true =>
      simp only [hc, hl, if_false, if_true]
      refine Calls.mono (open_is g gg c sv ex D w h.dk i x hx hc hl) ?_
      rintro r w' ⟨rfl, rfl⟩
      exact ⟨rfl, h, Only.refl _ _⟩
    | false =>
      obtain ⟨lb, hlb, hln⟩ := hg.lab
      have hto : x.label.toNat = lb := by omega
      by_cases hs : Q lb ≤ (seatsN D x.label : Int)
      · simp only [hc, hl, if_false, Bool.false_eq_true, hto, hs, if_true]
        refine Calls.mono (open_full g gg c sv ex D w h.dk i lb nq Q x hx hc hl h.sq hlb hln h.n32 hs) ?_
        rintro r w' ⟨rfl, hb⟩
        exact ⟨rfl, h.call hb, Only.of_below hb⟩
      · simp only [hc, hl, if_false, Bool.false_eq_true, hto, hs, ht]
        refine Calls.mono (open_ok g gg c sv ex D w h.dk i lb nq Q x hx hc hl h.sq hlb hln h.n32 hs) ?_
        rintro r w' ⟨rfl, hd, ho⟩
        have k := hg.ok
        exact ⟨rfl, h.turn hd ho ⟨⟨k.w0, k.w1, by simp, by simp, by simp, k.l0, k.l1, k.c0, k.c1⟩, hg.lab⟩, ho⟩
end Go.Proofs.Ythgacmlbmcehmaa
