/- The document's own desk beside the program's: what each call leaves of both. -/
import Derived.Test.YthgacmlbmcehmaaDRw
namespace Go.Proofs.Ythgacmlbmcehmaa
set_option linter.unusedVariables false
set_option linter.unusedSimpArgs false
open Go.ChangeShapes Go.WideShapes Go.ChangeAt Go.RowKit Go.Joins Go.Deep

/-- one client, as the program and as the document know it -/
structure RelG (x : Gst) (r : Rg) : Prop where
  conn : r.conn = x.conn
  opn : r.opn = x.opn
  wrong : r.wrong = x.wrong
  locked : r.locked = x.locked
  silent : x.opn = true → r.silent = x.silent
  s0 : 0 ≤ r.silent
  s1 : r.silent ≤ 23
def Rel : List Gst → List Rg → Prop
  | [], [] => True
  | x :: D, r :: R => RelG x r ∧ Rel D R
  | _, _ => False
theorem Rel.len {D : List Gst} {R : List Rg} (h : Rel D R) : D.length = R.length := by
  induction D generalizing R with
  | nil => cases R with
    | nil => rfl
    | cons r R => exact h.elim
  | cons x D ih => cases R with
    | nil => exact h.elim
    | cons r R => simp [ih h.2]
theorem Rel.get {D : List Gst} {R : List Rg} (h : Rel D R) {i : Nat} {x : Gst} (hx : D[i]? = some x) : ∃ r, R[i]? = some r ∧ RelG x r := by
  induction D generalizing R i with
  | nil => simp at hx
  | cons y D ih => cases R with
    | nil => exact h.elim
    | cons r R => cases i with
      | zero => obtain rfl : y = x := by simpa using hx
                exact ⟨r, rfl, h.1⟩
      | succ i => obtain ⟨r', h1, h2⟩ := ih h.2 (by simpa using hx)
                  exact ⟨r', by simpa using h1, h2⟩
theorem Rel.set {D : List Gst} {R : List Rg} (h : Rel D R) (i : Nat) {y : Gst} {s : Rg} (hs : RelG y s) : Rel (D.set i y) (R.set i s) := by
  induction D generalizing R i with
  | nil => cases R with
    | nil => trivial
    | cons r R => exact h.elim
  | cons x D ih => cases R with
    | nil => exact h.elim
    | cons r R => cases i with
      | zero => exact ⟨hs, h.2⟩
      | succ i => exact ⟨h.1, ih h.2 i⟩
theorem relG_over {x : Gst} {r : Rg} (h : RelG x r) (hk : Gok x) : overR r = overG x := by
  unfold overR overG
  rw [h.opn]
  cases ho : x.opn with
  | false => rfl
  | true =>
    rw [h.silent ho]
    have := hk.s2 ho
    by_cases e : x.silent + 1 = 24
    · simp [e]
    · have e2 : x.silent + 1 < 24 := by omega
      simp [e, e2]
theorem relG_age {x : Gst} {r : Rg} (h : RelG x r) (hk : Gok x) : RelG (ageG x) (ageR r) := by
  have ho := relG_over h hk
  have l0 := hk.l0
  unfold ageR
  rw [ho]
  cases hx : x.opn with
  | false =>
    have hv : overG x = false := by simp [overG, hx]
    have hr : r.opn = false := by rw [h.opn, hx]
    rw [hv]
    simp only [Bool.false_eq_true, if_false, hr]
    unfold ageG
    rw [hx]
    simp only [Bool.false_eq_true, if_false]
    exact ⟨h.conn, by simp [hr, hx], h.wrong, by simp [h.locked], fun e => by simp [hx] at e, h.s0, h.s1⟩
  | true =>
    have hr : r.opn = true := by rw [h.opn, hx]
    have hs := h.silent hx
    have h23 := hk.s2 hx
    have hs0 := hk.s0
    unfold ageG
    rw [hx]
    by_cases e : x.silent + 1 < 24
    · have hv : overG x = false := by simp [overG, hx, e]
      rw [hv]
      simp only [Bool.false_eq_true, if_false, hr, if_true]
      exact ⟨h.conn, by simp [hr, e], h.wrong, by simp [h.locked], fun _ => by simp [hs], by simp; omega, by simp; omega⟩
    · have hv : overG x = true := by simp [overG, hx, e]
      rw [hv]
      simp only [if_true]
      exact ⟨h.conn, by simp [e], h.wrong, by simp [h.locked], fun e2 => by simp [e] at e2, by simp, by simp⟩
theorem Rel.age {D : List Gst} {R : List Rg} (h : Rel D R) (hk : ∀ x ∈ D, Gok x) : Rel (D.map ageG) (R.map ageR) := by
  induction D generalizing R with
  | nil => cases R with
    | nil => trivial
    | cons r R => exact h.elim
  | cons x D ih => cases R with
    | nil => exact h.elim
    | cons r R => exact ⟨relG_age h.1 (hk x (List.mem_cons_self ..)), ih h.2 (fun y hy => hk y (List.mem_cons_of_mem _ hy))⟩
theorem Rel.overs {D : List Gst} {R : List Rg} (h : Rel D R) (hk : ∀ x ∈ D, Gok x) (n : Nat) (hn : n ≤ D.length) : oversR R n = oversL D n := by
  induction n with
  | zero => rfl
  | succ n ih =>
    obtain ⟨x, hx⟩ : ∃ x, D[n]? = some x := ⟨_, List.getElem?_eq_getElem (by omega)⟩
    obtain ⟨r, hr, hg⟩ := h.get hx
    have ho := relG_over hg (hk x (List.mem_of_getElem? hx))
    cases hov : overG x with
    | false => rw [oversR_no hr (ho.trans hov), oversL_no hx hov, ih (by omega)]
    | true => rw [oversR_is hr (ho.trans hov), oversL_is hx hov, ih (by omega)]
theorem Rel.seats {D : List Gst} {R : List Rg} {E : Nat → Int} (h : Rel D R) (hl : LabOk E D) (l : Int) (n : Nat) (hn : n ≤ D.length) : rsN R E l n = seatsN (D.take n) l := by
  induction n with
  | zero => simp [rsN, seatsN]
  | succ n ih =>
    obtain ⟨x, hx⟩ : ∃ x, D[n]? = some x := ⟨_, List.getElem?_eq_getElem (by omega)⟩
    obtain ⟨r, hr, hg⟩ := h.get hx
    rw [seats_take hx, ← ih (by omega)]
    have hE := hl n x hx
    cases ho : x.opn with
    | false =>
      rw [rsN_out hr (.inl (by rw [hg.opn, ho]))]
      simp [isIn, ho]
    | true =>
      by_cases e : E n = l
      · rw [rsN_in hr (by rw [hg.opn, ho]) e]
        simp [isIn, ho, hE, e]
      · rw [rsN_out hr (.inr e)]
        simp [isIn, ho, hE, e]
theorem Rel.rok {D : List Gst} {R : List Rg} (h : Rel D R) (hk : ∀ x ∈ D, Gok x) : ∀ r ∈ R, Rok r := by
  induction D generalizing R with
  | nil => cases R with
    | nil => intro r hr; cases hr
    | cons r R => exact h.elim
  | cons x D ih => cases R with
    | nil => exact h.elim
    | cons r R =>
      intro q hq
      rcases List.mem_cons.1 hq with rfl | hq
      · have k := hk x (List.mem_cons_self ..)
        exact ⟨h.1.s0, h.1.s1, by rw [h.1.locked]; exact k.l0, by rw [h.1.locked]; exact k.l1, by rw [h.1.wrong]; exact k.w0, by rw [h.1.wrong]; exact k.w1⟩
      · exact ih h.2 (fun y hy => hk y (List.mem_cons_of_mem _ hy)) q hq
theorem rel_new (E : Nat → Int) (n : Nat) : Rel (newD n E) (List.replicate n ⟨0, false, 0, 0, 0⟩) := by
  unfold newD
  have : ∀ (l : List Nat), Rel (l.map (newG E)) (List.replicate l.length ⟨0, false, 0, 0, 0⟩) := by
    intro l
    induction l with
    | nil => trivial
    | cons a l ih => exact ⟨⟨rfl, rfl, rfl, rfl, fun _ => rfl, by simp, by simp⟩, ih⟩
  have h := this (List.range n)
  rw [List.length_range] at h
  exact h
/-- in block g lies the document's own desk, which knows what the program's does -/
def Rf (w : World) (g : Nat) (s0 s1 s2 : Value) (D : List Gst) : Prop := ∃ gg c ex R, Rk w g gg c s0 s1 s2 ex R ∧ Rel D R
theorem Rf.call {w w' : World} {g : Nat} {s0 s1 s2 : Value} {D : List Gst} (h : Rf w g s0 s1 s2 D) (hb : Below w.heap.size w w') : Rf w' g s0 s1 s2 D := by
  obtain ⟨gg, c, ex, R, h1, h2⟩ := h
  exact ⟨gg, c, ex, R, h1.call hb, h2⟩
theorem Rf.other {w w' : World} {g : Nat} {s0 s1 s2 : Value} {D : List Gst} (h : Rf w g s0 s1 s2 D) {k : Nat} {cs : List Value} (hr : RowAt w k 77 cs) (ho : Only (· = k) w w') : Rf w' g s0 s1 s2 D := by
  obtain ⟨gg, c, ex, R, h1, h2⟩ := h
  exact ⟨gg, c, ex, R, ⟨h1.obj.only ho (rtag h1.obj hr (by decide)), h1.row.only ho (rtag h1.row hr (by decide)), h1.pos, h1.le, h1.cap⟩, h2⟩
theorem RkD.rf {w w' : World} {g : Nat} {s0 s1 s2 : Value} {R : List Rg} {D : List Gst} (h : RkD w w' g s0 s1 s2 R) (hr : Rel D R) : Rf w' g s0 s1 s2 D ∧ Only (· = g) w w' := by
  obtain ⟨⟨gg, c, ex, hk⟩, ho⟩ := h
  exact ⟨⟨gg, c, ex, R, hk, hr⟩, ho⟩
theorem gAt_out {D : List Gst} {R : List Rg} (h : Rel D R) {who : Int} (ha : gAt D who = none) : who < 0 ∨ (R.length : Int) ≤ who := by
  have := gAt_none ha
  rw [h.len] at this
  exact this
def knockD (D : List Gst) (who q : Int) : Bool × Int := match gAt D who with
  | none => (false, 1)
  | some x => knockE x q
theorem knockR_eq {x : Gst} {r : Rg} (h : RelG x r) (q : Int) : knockR r q = knockE x q := by
  unfold knockR knockE
  rw [h.conn, h.locked]
theorem knockF {w : World} {g : Nat} {s0 s1 s2 : Value} {D : List Gst} (h : Rf w g s0 s1 s2 D) (who q : Int) : Calls Try.prog 15 #[.pointer (some ⟨g, 0, none⟩), .int .i64 who, .int .i64 q] w fun r w' => r = .returned (.tuple #[.bool (knockD D who q).1, .int .i64 (knockD D who q).2]) ∧ Below w.heap.size w w' := by
  obtain ⟨gg, c, ex, R, hk, hr⟩ := h
  unfold knockD
  cases ha : gAt D who with
  | none =>
    refine Calls.mono (rknock_bad hk who q (gAt_out hr ha)) ?_
    rintro r w' ⟨rfl, rfl⟩
    exact ⟨rfl, Below.refl _ _⟩
  | some x =>
    obtain ⟨i, rfl, hx, ht⟩ := gAt_some ha
    obtain ⟨r, hr1, hg⟩ := hr.get hx
    have := rknock_ok hk i r hr1 q
    rw [knockR_eq hg q] at this
    exact this
theorem knock_any {w : World} {g gg c nq : Nat} {sv : Value} {ex : List Value} {Q : Nat → Int} {D : List Gst} (h : Ds w g gg c nq sv ex Q D) (who q : Int) : Calls Try.prog 14 #[.pointer (some ⟨g, 0, none⟩), .int .i64 who, .int .i64 q] w fun r w' => r = .returned (.tuple #[.bool (knockD D who q).1, .int .i64 (knockD D who q).2]) ∧ w = w' := by
  unfold knockD
  cases ha : gAt D who with
  | none => exact knock_bad _ who q 1 w rfl (h.no ha)
  | some x =>
    obtain ⟨i, rfl, hx, ht⟩ := gAt_some ha
    exact knock_ok g gg c sv ex D w h.dk i x q hx
theorem wrongF {w : World} {g : Nat} {s0 s1 s2 : Value} {D : List Gst} (h : Rf w g s0 s1 s2 D) (hk : ∀ x ∈ D, Gok x) (who : Int) : Calls Try.prog 17 #[.pointer (some ⟨g, 0, none⟩), .int .i64 who] w fun r w' => r = .returned (.int .i64 (wrongD D who).2) ∧ Rf w' g s0 s1 s2 (wrongD D who).1 ∧ Only (· = g) w w' := by
  have h0 := h
  obtain ⟨gg, c, ex, R, hrk, hr⟩ := h
  unfold wrongD
  cases ha : gAt D who with
  | none =>
    refine Calls.mono (rwrong_bad hrk who (gAt_out hr ha)) ?_
    rintro r w' ⟨rfl, rfl⟩
    exact ⟨rfl, h0, Only.refl _ _⟩
  | some x =>
    obtain ⟨i, rfl, hx, ht⟩ := gAt_some ha
    obtain ⟨r, hr1, hg⟩ := hr.get hx
    have k := hk x (List.mem_of_getElem? hx)
    by_cases hl : 0 < x.locked
    · simp only [hl, if_true]
      refine Calls.mono (rwrong_locked hrk i r hr1 (by rw [hg.locked]; exact hl)) ?_
      rintro r w' ⟨rfl, hd⟩
      exact ⟨rfl, (hd.rf hr).1, (hd.rf hr).2⟩
    · simp only [hl, if_false, ht]
      refine Calls.mono (rwrong_ok hrk i r hr1 (by rw [hg.locked]; exact hl) (by rw [hg.wrong]; exact k.w0) (by rw [hg.wrong]; exact k.w1)) ?_
      rintro r' w' ⟨rfl, hd⟩
      have hrel : Rel (D.set i (wrongG x)) (R.set i (wrongR r)) := hr.set i (by
        have w1 := k.w1
        have w0 := k.w0
        unfold wrongG wrongR
        rw [hg.wrong]
        by_cases e : x.wrong + 1 = 3
        · rw [if_pos (by omega), if_pos e]
          exact ⟨hg.conn, hg.opn, rfl, rfl, hg.silent, hg.s0, hg.s1⟩
        · rw [if_neg (by omega), if_neg e]
          exact ⟨hg.conn, hg.opn, rfl, hg.locked, hg.silent, hg.s0, hg.s1⟩)
      exact ⟨rfl, (hd.rf hrel).1, (hd.rf hrel).2⟩
theorem heardF {w : World} {g : Nat} {s0 s1 s2 : Value} {D : List Gst} (h : Rf w g s0 s1 s2 D) (who : Int) : Calls Try.prog 19 #[.pointer (some ⟨g, 0, none⟩), .int .i64 who] w fun r w' => r = .returned (.int .i64 (heardD D who).2) ∧ Rf w' g s0 s1 s2 (heardD D who).1 ∧ Only (· = g) w w' := by
  have h0 := h
  obtain ⟨gg, c, ex, R, hrk, hr⟩ := h
  unfold heardD
  cases ha : gAt D who with
  | none =>
    refine Calls.mono (rheard_bad hrk who (gAt_out hr ha)) ?_
    rintro r w' ⟨rfl, rfl⟩
    exact ⟨rfl, h0, Only.refl _ _⟩
  | some x =>
    obtain ⟨i, rfl, hx, ht⟩ := gAt_some ha
    obtain ⟨r, hr1, hg⟩ := hr.get hx
    cases hl : x.opn with
    | true =>
      simp only [hl, if_true, ht]
      refine Calls.mono (rheard_in hrk i r hr1 (by rw [hg.opn]; exact hl)) ?_
      rintro r' w' ⟨rfl, hd⟩
      have hrel : Rel (D.set i { x with opn := true, silent := 0 }) (R.set i { r with opn := true, silent := 0 }) := hr.set i ⟨hg.conn, rfl, hg.wrong, hg.locked, fun _ => rfl, by simp, by simp⟩
      exact ⟨rfl, by simpa [hl] using (hd.rf hrel).1, (hd.rf hrel).2⟩
    | false =>
      simp only [hl, Bool.false_eq_true, if_false]
      refine Calls.mono (rheard_out hrk i r hr1 (by rw [hg.opn]; exact hl)) ?_
      rintro r' w' ⟨rfl, hb⟩
      exact ⟨rfl, h0.call hb, Only.of_below hb⟩
theorem shutF {w : World} {g : Nat} {s0 s1 s2 : Value} {D : List Gst} (h : Rf w g s0 s1 s2 D) (who : Int) : Calls Try.prog 20 #[.pointer (some ⟨g, 0, none⟩), .int .i64 who] w fun r w' => r = .returned (.int .i64 (shutD D who).2) ∧ Rf w' g s0 s1 s2 (shutD D who).1 ∧ Only (· = g) w w' := by
  have h0 := h
  obtain ⟨gg, c, ex, R, hrk, hr⟩ := h
  unfold shutD
  cases ha : gAt D who with
  | none =>
    refine Calls.mono (rshut_err hrk who 1 (by decide) (Calls.mono (rheard_bad hrk who (gAt_out hr ha)) (by rintro r w' ⟨rfl, rfl⟩; exact ⟨rfl, Below.refl _ _⟩))) ?_
    rintro r w' ⟨rfl, hb⟩
    exact ⟨rfl, h0.call hb, Only.of_below hb⟩
  | some x =>
    obtain ⟨i, rfl, hx, ht⟩ := gAt_some ha
    obtain ⟨r, hr1, hg⟩ := hr.get hx
    cases hl : x.opn with
    | true =>
      simp only [hl, if_true, ht]
      refine Calls.mono (rshut_in hrk i r hr1 (by rw [hg.opn]; exact hl)) ?_
      rintro r' w' ⟨rfl, hd⟩
      have hrel : Rel (D.set i { x with opn := false }) (R.set i { r with opn := false, silent := 0 }) := hr.set i ⟨hg.conn, rfl, hg.wrong, hg.locked, fun e => (by cases e), by simp, by simp⟩
      exact ⟨rfl, (hd.rf hrel).1, (hd.rf hrel).2⟩
    | false =>
      simp only [hl, Bool.false_eq_true, if_false]
      refine Calls.mono (rshut_err hrk (i : Int) 172 (by decide) (rheard_out hrk i r hr1 (by rw [hg.opn]; exact hl))) ?_
      rintro r' w' ⟨rfl, hb⟩
      exact ⟨rfl, h0.call hb, Only.of_below hb⟩
theorem beginF {w : World} {g : Nat} {s0 s1 s2 : Value} {D : List Gst} (h : Rf w g s0 s1 s2 D) (who q : Int) : Calls Try.prog 23 #[.pointer (some ⟨g, 0, none⟩), .int .i64 who, .int .i64 q] w fun r w' => r = .returned (.int .i64 (beginD D who q).2) ∧ Rf w' g s0 s1 s2 (beginD D who q).1 ∧ Only (· = g) w w' := by
  have h0 := h
  obtain ⟨gg, c, ex, R, hrk, hr⟩ := h
  unfold beginD
  cases ha : gAt D who with
  | none =>
    refine Calls.mono (rbegin_err hrk who q 1 false (Calls.mono (rknock_bad hrk who q (gAt_out hr ha)) (by rintro r w' ⟨rfl, rfl⟩; exact ⟨rfl, Below.refl _ _⟩)) (by simp)) ?_
    rintro r w' ⟨rfl, hb⟩
    exact ⟨rfl, h0.call hb, Only.of_below hb⟩
  | some x =>
    obtain ⟨i, rfl, hx, ht⟩ := gAt_some ha
    obtain ⟨r, hr1, hg⟩ := hr.get hx
    have he := knockR_eq hg q
    by_cases hq : knockE x q = (true, 0)
    · simp only [hq, if_true, ht]
      refine Calls.mono (rbegin_ok hrk i r hr1 q (he.trans hq)) ?_
      rintro r' w' ⟨rfl, hd⟩
      have hrel : Rel (D.set i ⟨x.label, q, false, 0, 0, 0⟩) (R.set i ⟨q, false, 0, 0, 0⟩) := hr.set i ⟨rfl, rfl, rfl, rfl, fun _ => rfl, by simp, by simp⟩
      exact ⟨rfl, (hd.rf hrel).1, (hd.rf hrel).2⟩
    · simp only [hq, if_false]
      have hc := rknock_ok hrk i r hr1 q
      rw [he] at hc
      refine Calls.mono (rbegin_err hrk (i : Int) q (knockE x q).2 (knockE x q).1 hc hq) ?_
      rintro r' w' ⟨rfl, hb⟩
      exact ⟨rfl, h0.call hb, Only.of_below hb⟩
theorem openF {w : World} {g n1 n2 c1 c2 : Nat} {s0 : Value} {a1 a2 : Option Addr} {E Q1 Q2 Q3 : Nat → Int} {S : Nat → ByteArray} {Dw : Nat → Bool} {D : List Gst} (h : Rf w g s0 (.slice a1 n1 c1) (.slice a2 n2 c2) D) (pe : PolEnts w a2 n2 E S Dw) (pq : PolQuos w a1 n1 Q1 Q2 Q3) (hl : LabOk E D) (hlen : D.length = n2) (hgin : ∀ x ∈ D, Gin n1 x) (hn1 : n1 ≤ 32) (who : Int) :
    Calls Try.prog 18 #[.pointer (some ⟨g, 0, none⟩), .int .i64 who] w fun r w' => r = .returned (.int .i64 (openD Q3 D who).2) ∧ Rf w' g s0 (.slice a1 n1 c1) (.slice a2 n2 c2) (openD Q3 D who).1 ∧ Only (· = g) w w' := by
  have h0 := h
  obtain ⟨gg, c, ex, R, hrk, hr⟩ := h
  unfold openD
  cases ha : gAt D who with
  | none =>
    refine Calls.mono (ropen_bad hrk who (gAt_out hr ha)) ?_
    rintro r w' ⟨rfl, rfl⟩
    exact ⟨rfl, h0, Only.refl _ _⟩
  | some x =>
    obtain ⟨i, rfl, hx, ht⟩ := gAt_some ha
    obtain ⟨r, hr1, hg⟩ := hr.get hx
    by_cases hc : x.conn = 0
    · simp only [hc, if_true]
      refine Calls.mono (ropen_shut (E := E) (Q1 := Q1) (Q2 := Q2) (Q3 := Q3) (S := S) (Dw := Dw) hrk i r hr1 (by rw [hg.conn]; exact hc)) ?_
      rintro r' w' ⟨rfl, hb⟩
      exact ⟨rfl, h0.call hb, Only.of_below hb⟩
    cases ho : x.opn with
    | true =>
      simp only [hc, ho, if_false, if_true]
      refine Calls.mono (ropen_is (E := E) (Q1 := Q1) (Q2 := Q2) (Q3 := Q3) (S := S) (Dw := Dw) hrk i r hr1 (by rw [hg.conn]; exact hc) (by rw [hg.opn]; exact ho)) ?_
      rintro r' w' ⟨rfl, hb⟩
      exact ⟨rfl, h0.call hb, Only.of_below hb⟩
    | false =>
      obtain ⟨lb, hlb, hln⟩ := (hgin x (List.mem_of_getElem? hx)).lab
      have hto : x.label.toNat = lb := by omega
      have hE : E i = (lb : Int) := by rw [← hl i x hx]; exact hlb
      have hse : rsN R E (lb : Int) n2 = seatsN D x.label := by
        rw [hr.seats hl (lb : Int) n2 (by omega), List.take_of_length_le (by omega), hlb]
      by_cases hs : Q3 lb ≤ (seatsN D x.label : Int)
      · simp only [hc, ho, if_false, Bool.false_eq_true, hto, hs, if_true]
        refine Calls.mono (ropen_full hrk pe pq (by rw [← hr.len]; exact hlen) i lb r hr1 (by rw [hg.conn]; exact hc) (by rw [hg.opn]; exact ho) hE hln hn1 (by rw [hse]; exact hs)) ?_
        rintro r' w' ⟨rfl, hb⟩
        exact ⟨rfl, h0.call hb, Only.of_below hb⟩
      · simp only [hc, ho, if_false, Bool.false_eq_true, hto, hs, ht]
        refine Calls.mono (ropen_ok hrk pe pq (by rw [← hr.len]; exact hlen) i lb r hr1 (by rw [hg.conn]; exact hc) (by rw [hg.opn]; exact ho) hE hln hn1 (by rw [hse]; exact hs)) ?_
        rintro r' w' ⟨rfl, hd⟩
        have hrel : Rel (D.set i { x with opn := true, silent := 0 }) (R.set i { r with opn := true, silent := 0 }) := hr.set i ⟨hg.conn, rfl, hg.wrong, hg.locked, fun _ => rfl, by simp, by simp⟩
        exact ⟨rfl, (hd.rf hrel).1, (hd.rf hrel).2⟩
theorem seatsF {w : World} {g n2 c2 : Nat} {s0 s1 : Value} {a2 : Option Addr} {E : Nat → Int} {S : Nat → ByteArray} {Dw : Nat → Bool} {D : List Gst} (h : Rf w g s0 s1 (.slice a2 n2 c2) D) (pe : PolEnts w a2 n2 E S Dw) (hl : LabOk E D) (hlen : D.length = n2) (l : Int) :
    Calls Try.prog 28 #[.pointer (some ⟨g, 0, none⟩), .int .i64 l] w fun r w' => r = .returned (.int .i64 (seatsN D l : Int)) ∧ Below w.heap.size w w' := by
  obtain ⟨gg, c, ex, R, hrk, hr⟩ := h
  have := rseats_ok hrk pe (by rw [← hr.len]; exact hlen) l
  rw [hr.seats hl l n2 (by omega), List.take_of_length_le (by omega)] at this
  exact this
theorem tickF {w : World} {g : Nat} {s0 s1 s2 : Value} {D : List Gst} (h : Rf w g s0 s1 s2 D) (hk : ∀ x ∈ D, Gok x) : Calls Try.prog 22 #[.pointer (some ⟨g, 0, none⟩)] w fun r w' => ∃ v, r = .returned v ∧ Rf w' g s0 s1 s2 (D.map ageG) ∧ Only (· = g) w w' ∧
    w'.ownsRow w.heap.size 3 1 v (oversL D D.length).length ((oversL D D.length).map (Value.int IntKind.i64)) ∧ (oversL D D.length = [] → v = .slice none 0 0) := by
  obtain ⟨gg, c, ex, R, hrk, hr⟩ := h
  refine Calls.mono (rtick_ok hrk (hr.rok hk)) ?_
  rintro r w' ⟨v, rfl, ht⟩
  obtain ⟨gg', c', ex', hk'⟩ := ht.rk
  rw [agedR_all] at hk'
  have ho := ht.own
  rw [← hr.len, hr.overs hk _ (Nat.le_refl _)] at ho
  exact ⟨v, rfl, ⟨gg', c', ex', _, hk', hr.age hk⟩, ht.only, ho, fun e => ht.nil (by rw [← hr.len, hr.overs hk _ (Nat.le_refl _)]; exact e)⟩
end Go.Proofs.Ythgacmlbmcehmaa
