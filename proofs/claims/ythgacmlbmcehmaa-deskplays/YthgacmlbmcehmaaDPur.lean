/- Lists of guests: seats, what an error leaves, guests of one label beside those of others. -/
import Derived.Test.YthgacmlbmcehmaaDInt
namespace Go.Proofs.Ythgacmlbmcehmaa
set_option linter.unusedVariables false
set_option linter.unusedSimpArgs false
open Go.ChangeShapes Go.WideShapes Go.ChangeAt Go.RowKit Go.Joins Go.Deep

theorem seats_cons (x : Gst) (D : List Gst) (l : Int) : seatsN (x :: D) l = seatsN D l + (if isIn l x then 1 else 0) := by
  unfold seatsN
  cases h : isIn l x <;> simp [List.filter_cons, h]
theorem seats_set : ∀ (D : List Gst) (i : Nat) (y y' : Gst) (l : Int), D[i]? = some y → seatsN (D.set i y') l + (if isIn l y then 1 else 0) = seatsN D l + (if isIn l y' then 1 else 0)
  | [], i, y, y', l, h => by simp at h
  | x :: D, 0, y, y', l, h => by
    obtain rfl : x = y := by simpa using h
    rw [List.set_cons_zero, seats_cons, seats_cons]
    omega
  | x :: D, i + 1, y, y', l, h => by
    have := seats_set D i y y' l (by simpa using h)
    rw [List.set_cons_succ, seats_cons, seats_cons]
    omega
theorem age_in {x : Gst} {l : Int} (h : isIn l (ageG x) = true) : isIn l x = true := by
  unfold isIn ageG at *
  cases ho : x.opn <;> simp [ho] at h ⊢
  exact h.2
theorem seats_age (l : Int) : ∀ D : List Gst, seatsN (D.map ageG) l ≤ seatsN D l
  | [] => Nat.le_refl _
  | x :: D => by
    have := seats_age l D
    rw [List.map_cons, seats_cons, seats_cons]
    cases h : isIn l (ageG x) with
    | false => simp; omega
    | true => rw [age_in h]; simp; omega
def openN (D : List Gst) : Nat := (D.filter (·.opn)).length
theorem openN_le (D : List Gst) : openN D ≤ D.length := List.length_filter_le _ _
theorem openN_take {D : List Gst} {k : Nat} {x : Gst} (hx : D[k]? = some x) : openN (D.take (k + 1)) = openN (D.take k) + (if x.opn then 1 else 0) := by
  unfold openN
  rw [List.take_add_one, hx, List.filter_append, List.length_append]
  cases h : x.opn <;> simp [h]
def sumS (D : List Gst) : Nat → Nat
  | 0 => 0
  | k + 1 => sumS D k + seatsN D (k : Int)
theorem sumS_cons (x : Gst) (D : List Gst) (k : Nat) : sumS (x :: D) k = sumS D k + sumS [x] k := by
  induction k with
  | zero => rfl
  | succ k ih =>
    simp only [sumS]
    rw [ih, seats_cons x D, seats_cons x []]
    have : seatsN [] (k : Int) = 0 := rfl
    omega
theorem sumS_one {x : Gst} {lb : Nat} (h : x.label = (lb : Int)) (k : Nat) : sumS [x] k = if x.opn = true ∧ lb < k then 1 else 0 := by
  induction k with
  | zero => simp [sumS]
  | succ k ih =>
    simp only [sumS]
    rw [ih, seats_cons]
    have h0 : seatsN [] (k : Int) = 0 := rfl
    rw [h0]
    unfold isIn
    rw [h]
    cases x.opn with
    | false => simp
    | true =>
      by_cases e : lb = k
      · subst e; simp
      · have e' : ((lb : Int) == (k : Int)) = false := by simp; omega
        simp only [e', Bool.and_false, Bool.false_eq_true, if_false, true_and]
        by_cases e2 : lb < k
        · rw [if_pos e2, if_pos (by omega)]
        · rw [if_neg e2, if_neg (by omega)]
theorem sumS_nil (k : Nat) : sumS [] k = 0 := by
  induction k with
  | zero => rfl
  | succ k ih => simp only [sumS]; rw [ih]; rfl
theorem sumS_all {nq : Nat} : ∀ D : List Gst, (∀ x ∈ D, ∃ lb : Nat, x.label = (lb : Int) ∧ lb < nq) → sumS D nq = openN D
  | [], _ => by rw [sumS_nil]; rfl
  | x :: D, h => by
    obtain ⟨lb, h1, h2⟩ := h x (List.mem_cons_self ..)
    have := sumS_all D (fun y hy => h y (List.mem_cons_of_mem _ hy))
    rw [sumS_cons, sumS_one h1, this]
    unfold openN
    cases ho : x.opn <;> simp [List.filter_cons, ho, h2]
theorem sumS_le {D : List Gst} {k m : Nat} (h : k ≤ m) : sumS D k ≤ sumS D m := by
  induction m with
  | zero => obtain rfl : k = 0 := by omega
            exact Nat.le_refl _
  | succ m ih =>
    by_cases e : k = m + 1
    · subst e; exact Nat.le_refl _
    · have := ih (by omega)
      simp only [sumS]
      omega
/-- what a call does but for a tick: nothing, or one guest is another one of the same label -/
theorem does_shape (Q : Nat → Int) (D : List Gst) (o who conn n : Int) (h7 : bits .and .i64 o 7 ≠ 7) :
    (doesD Q D o who conn n).1 = D ∨ ∃ y y', gAt D who = some y ∧ (doesD Q D o who conn n).1 = D.set who.toNat y' ∧ y'.label = y.label ∧ (y'.opn = true → y'.conn ≠ 0 ∨ (y.opn = true ∧ y'.conn = y.conn)) ∧ (y'.opn = true → y.opn = true ∨ ¬ Q y.label.toNat ≤ (seatsN D y.label : Int)) := by
  unfold doesD
  rw [if_neg h7]
  have hw : (wrongD D who).1 = D ∨ ∃ y y', gAt D who = some y ∧ (wrongD D who).1 = D.set who.toNat y' ∧ y'.label = y.label ∧ (y'.opn = true → y'.conn ≠ 0 ∨ (y.opn = true ∧ y'.conn = y.conn)) ∧ (y'.opn = true → y.opn = true ∨ ¬ Q y.label.toNat ≤ (seatsN D y.label : Int)) := by
    unfold wrongD
    split
    · exact .inl rfl
    · rename_i y hy
      split
      · exact .inl rfl
      · refine .inr ⟨y, wrongG y, hy, rfl, wrong_label y, ?_, ?_⟩
        · intro h; unfold wrongG at h ⊢; split <;> simp_all
        · intro h; unfold wrongG at h; split at h <;> simp_all
  have ho : (openD Q D who).1 = D ∨ ∃ y y', gAt D who = some y ∧ (openD Q D who).1 = D.set who.toNat y' ∧ y'.label = y.label ∧ (y'.opn = true → y'.conn ≠ 0 ∨ (y.opn = true ∧ y'.conn = y.conn)) ∧ (y'.opn = true → y.opn = true ∨ ¬ Q y.label.toNat ≤ (seatsN D y.label : Int)) := by
    unfold openD
    split
    · exact .inl rfl
    · rename_i y hy
      split
      · exact .inl rfl
      · rename_i hc
        split
        · exact .inl rfl
        · split
          · exact .inl rfl
          · rename_i hs
            exact .inr ⟨y, _, hy, rfl, rfl, fun _ => .inl hc, fun _ => .inr hs⟩
  have hh : (heardD D who).1 = D ∨ ∃ y y', gAt D who = some y ∧ (heardD D who).1 = D.set who.toNat y' ∧ y'.label = y.label ∧ (y'.opn = true → y'.conn ≠ 0 ∨ (y.opn = true ∧ y'.conn = y.conn)) ∧ (y'.opn = true → y.opn = true ∨ ¬ Q y.label.toNat ≤ (seatsN D y.label : Int)) := by
    unfold heardD
    split
    · exact .inl rfl
    · rename_i y hy
      split
      · exact .inr ⟨y, _, hy, rfl, rfl, fun h => .inr ⟨h, rfl⟩, fun h => .inl h⟩
      · exact .inl rfl
  have hs : (shutD D who).1 = D ∨ ∃ y y', gAt D who = some y ∧ (shutD D who).1 = D.set who.toNat y' ∧ y'.label = y.label ∧ (y'.opn = true → y'.conn ≠ 0 ∨ (y.opn = true ∧ y'.conn = y.conn)) ∧ (y'.opn = true → y.opn = true ∨ ¬ Q y.label.toNat ≤ (seatsN D y.label : Int)) := by
    unfold shutD
    split
    · exact .inl rfl
    · rename_i y hy
      split
      · exact .inr ⟨y, _, hy, rfl, rfl, fun h => (by cases h), fun h => (by cases h)⟩
      · exact .inl rfl
  have hb : (beginD D who conn).1 = D ∨ ∃ y y', gAt D who = some y ∧ (beginD D who conn).1 = D.set who.toNat y' ∧ y'.label = y.label ∧ (y'.opn = true → y'.conn ≠ 0 ∨ (y.opn = true ∧ y'.conn = y.conn)) ∧ (y'.opn = true → y.opn = true ∨ ¬ Q y.label.toNat ≤ (seatsN D y.label : Int)) := by
    unfold beginD
    split
    · exact .inl rfl
    · rename_i y hy
      split
      · exact .inr ⟨y, _, hy, rfl, rfl, fun h => (by cases h), fun h => (by cases h)⟩
      · exact .inl rfl
  repeat' split
  all_goals first | exact hw | exact ho | exact hh | exact hs | exact hb
theorem does_tick (Q : Nat → Int) (D : List Gst) (o who conn n : Int) (h7 : bits .and .i64 o 7 = 7) : doesD Q D o who conn n = ((ticksD (timesN n) D).1, (ticksD (timesN n) D).2, 0) := by
  unfold doesD
  rw [h7]
  simp
/-- no label has more sessions than seats; who is in has a connection -/
structure SOk (nq : Nat) (Q : Nat → Int) (D : List Gst) : Prop where
  seat : ∀ lb : Nat, lb < nq → (seatsN D (lb : Int) : Int) ≤ Q lb
  conn : ∀ x ∈ D, x.opn = true → x.conn ≠ 0
theorem SOk.age {nq : Nat} {Q : Nat → Int} {D : List Gst} (h : SOk nq Q D) : SOk nq Q (D.map ageG) := by
  refine ⟨fun lb hl => ?_, fun x hx ho => ?_⟩
  · have := h.seat lb hl
    have := seats_age (lb : Int) D
    omega
  · obtain ⟨y, hy, rfl⟩ := List.mem_map.1 hx
    have := h.conn y hy
    unfold ageG at ho ⊢
    cases hq : y.opn <;> simp [hq] at ho ⊢
    exact this hq
theorem SOk.ticks {nq : Nat} {Q : Nat → Int} {D : List Gst} (h : SOk nq Q D) (m : Nat) : SOk nq Q (ticksD m D).1 := by
  induction m with
  | zero => exact h
  | succ m ih => exact ih.age
theorem SOk.does {nq : Nat} {Q : Nat → Int} {D : List Gst} (h : SOk nq Q D) (hl : ∀ x ∈ D, ∃ lb : Nat, x.label = (lb : Int) ∧ lb < nq) (o who conn n : Int) : SOk nq Q (doesD Q D o who conn n).1 := by
  by_cases h7 : bits .and .i64 o 7 = 7
  · rw [does_tick Q D o who conn n h7]
    exact h.ticks _
  rcases does_shape Q D o who conn n h7 with e | ⟨y, y', hy, e, e1, e2, e3⟩
  · rw [e]; exact h
  rw [e]
  obtain ⟨i, rfl, hx, ht⟩ := gAt_some hy
  rw [ht]
  refine ⟨fun lb hlb => ?_, fun x hx' ho => ?_⟩
  · have a := seats_set D i y y' (lb : Int) hx
    have b := h.seat lb hlb
    by_cases ho : y'.opn = true
    · rcases e3 ho with h1 | h1
      · have : isIn (lb : Int) y' = isIn (lb : Int) y := by unfold isIn; rw [ho, h1, e1]
        rw [this] at a
        omega
      · by_cases hll : y.label = (lb : Int)
        · rw [hll] at h1
          have : ((lb : Int)).toNat = lb := by omega
          rw [this] at h1
          have : (if isIn (lb : Int) y' = true then 1 else 0) ≤ 1 := by split <;> omega
          omega
        · have : isIn (lb : Int) y' = false := by unfold isIn; rw [e1]; simp [hll]
          rw [this] at a
          simp at a
          omega
    · have : isIn (lb : Int) y' = false := by unfold isIn; simp [ho]
      rw [this] at a
      simp at a
      omega
  · rcases List.mem_or_eq_of_mem_set hx' with hm | rfl
    · exact h.conn x hm ho
    · rcases e2 ho with h1 | ⟨h1, h2⟩
      · exact h1
      · rw [h2]; exact h.conn y (List.mem_of_getElem? hx) h1
theorem does_refused {Q : Nat → Int} {D : List Gst} {o who conn n : Int} (h : (doesD Q D o who conn n).2.2 ≠ 0) : (doesD Q D o who conn n).1 = D := by
  have hw : (wrongD D who).2 ≠ 0 → (wrongD D who).1 = D := by
    unfold wrongD; split
    · intro _; rfl
    · split
      · intro _; rfl
      · intro h; exact absurd rfl h
  have ho : (openD Q D who).2 ≠ 0 → (openD Q D who).1 = D := by
    unfold openD; split
    · intro _; rfl
    · split
      · intro _; rfl
      · split
        · intro _; rfl
        · split
          · intro _; rfl
          · intro h; exact absurd rfl h
  have hh : (heardD D who).2 ≠ 0 → (heardD D who).1 = D := by
    unfold heardD; split
    · intro _; rfl
    · split
      · intro h; exact absurd rfl h
      · intro _; rfl
  have hs : (shutD D who).2 ≠ 0 → (shutD D who).1 = D := by
    unfold shutD; split
    · intro _; rfl
    · split
      · intro h; exact absurd rfl h
      · intro _; rfl
  have hb : (beginD D who conn).2 ≠ 0 → (beginD D who conn).1 = D := by
    unfold beginD; split
    · intro _; rfl
    · split
      · intro h; exact absurd rfl h
      · intro _; rfl
  revert h
  unfold doesD
  repeat' split
  all_goals first | exact hw | exact ho | exact hh | exact hs | exact hb | (intro h; exact absurd rfl h)
/-- these guests have these labels -/
def LabOk (E : Nat → Int) (D : List Gst) : Prop := ∀ (i : Nat) x, D[i]? = some x → x.label = E i
theorem LabOk.age {E : Nat → Int} {D : List Gst} (h : LabOk E D) : LabOk E (D.map ageG) := by
  intro i x hx
  rw [List.getElem?_map] at hx
  cases hy : D[i]? with
  | none => rw [hy] at hx; cases hx
  | some y => rw [hy] at hx; obtain rfl : ageG y = x := by simpa using hx
              rw [age_label]; exact h i y hy
theorem LabOk.ticks {E : Nat → Int} {D : List Gst} (h : LabOk E D) (m : Nat) : LabOk E (ticksD m D).1 := by
  induction m with
  | zero => exact h
  | succ m ih => exact ih.age
theorem LabOk.set {E : Nat → Int} {D : List Gst} (h : LabOk E D) {i : Nat} {y y' : Gst} (hy : D[i]? = some y) (hl : y'.label = y.label) : LabOk E (D.set i y') := by
  intro k x hx
  by_cases hk : i = k
  · subst hk
    rw [List.getElem?_set_self (List.getElem?_eq_some_iff.1 hy).1] at hx
    obtain rfl : y' = x := by simpa using hx
    rw [hl]; exact h i y hy
  · rw [List.getElem?_set_ne hk] at hx
    exact h k x hx
theorem LabOk.does {E : Nat → Int} {D : List Gst} (h : LabOk E D) (Q : Nat → Int) (o who conn n : Int) : LabOk E (doesD Q D o who conn n).1 := by
  by_cases h7 : bits .and .i64 o 7 = 7
  · rw [does_tick Q D o who conn n h7]
    exact h.ticks _
  rcases does_shape Q D o who conn n h7 with e | ⟨y, y', hy, e, e1, _⟩
  · rw [e]; exact h
  rw [e]
  obtain ⟨i, rfl, hx, ht⟩ := gAt_some hy
  rw [ht]
  exact h.set hx e1
theorem labOk_new (n2 : Nat) (E : Nat → Int) : LabOk E (newD n2 E) := by
  intro i x hx
  unfold newD at hx
  rw [List.getElem?_map] at hx
  cases hr : (List.range n2)[i]? with
  | none => rw [hr] at hx; cases hx
  | some k =>
    rw [hr] at hx
    obtain rfl : newG E k = x := by simpa using hx
    rw [List.getElem?_eq_some_iff] at hr
    obtain ⟨h1, h2⟩ := hr
    rw [List.getElem_range] at h2
    rw [h2]; rfl
/-- the guests of this label are the same ones -/
def Eqv (lab : Int) : List Gst → List Gst → Prop
  | [], [] => True
  | x :: A, y :: B => (x.label = y.label ∧ (x.label = lab → x = y)) ∧ Eqv lab A B
  | _, _ => False
theorem Eqv.refl (lab : Int) : ∀ A, Eqv lab A A
  | [] => trivial
  | x :: A => ⟨⟨rfl, fun _ => rfl⟩, Eqv.refl lab A⟩
theorem Eqv.get {lab : Int} : ∀ {A B : List Gst} (i : Nat) {x : Gst}, Eqv lab A B → A[i]? = some x → ∃ y, B[i]? = some y ∧ x.label = y.label ∧ (x.label = lab → x = y)
  | [], [], i, x, _, h => by simp at h
  | a :: A, b :: B, 0, x, h, hx => by
    obtain rfl : a = x := by simpa using hx
    exact ⟨b, rfl, h.1.1, h.1.2⟩
  | a :: A, b :: B, i + 1, x, h, hx => by
    obtain ⟨y, h1, h2⟩ := Eqv.get (A := A) (B := B) i h.2 (by simpa using hx)
    exact ⟨y, by simpa using h1, h2⟩
theorem Eqv.len {lab : Int} : ∀ {A B : List Gst}, Eqv lab A B → A.length = B.length
  | [], [], _ => rfl
  | a :: A, b :: B, h => by simp [Eqv.len h.2]
theorem Eqv.seats {lab : Int} : ∀ {A B : List Gst}, Eqv lab A B → seatsN A lab = seatsN B lab
  | [], [], _ => rfl
  | a :: A, b :: B, h => by
    rw [seats_cons, seats_cons, Eqv.seats h.2]
    by_cases hl : a.label = lab
    · rw [h.1.2 hl]
    · have h1 : isIn lab a = false := by unfold isIn; simp [hl]
      have h2 : isIn lab b = false := by unfold isIn; rw [← h.1.1]; simp [hl]
      rw [h1, h2]
theorem Eqv.age {lab : Int} : ∀ {A B : List Gst}, Eqv lab A B → Eqv lab (A.map ageG) (B.map ageG)
  | [], [], _ => trivial
  | a :: A, b :: B, h => ⟨⟨by rw [age_label, age_label]; exact h.1.1, fun e => by rw [age_label] at e; rw [h.1.2 e]⟩, Eqv.age h.2⟩
theorem Eqv.setL {lab : Int} {A B : List Gst} (i : Nat) {x x' : Gst} (h : Eqv lab A B) (hx : A[i]? = some x) (hl : x'.label = x.label) (hn : x.label ≠ lab) : Eqv lab (A.set i x') B := by
  induction A generalizing B i with
  | nil => simp at hx
  | cons a A ih =>
    cases B with
    | nil => exact h.elim
    | cons b B =>
      cases i with
      | zero =>
        obtain rfl : a = x := by simpa using hx
        exact ⟨⟨hl.trans h.1.1, fun e => absurd (hl.symm.trans e) hn⟩, h.2⟩
      | succ i => exact ⟨h.1, ih i h.2 (by simpa using hx)⟩
theorem Eqv.set2 {lab : Int} : ∀ {A B : List Gst} (i : Nat) {x' : Gst}, Eqv lab A B → Eqv lab (A.set i x') (B.set i x')
  | [], [], i, x', _ => trivial
  | a :: A, b :: B, 0, x', h => ⟨⟨rfl, fun _ => rfl⟩, h.2⟩
  | a :: A, b :: B, i + 1, x', h => ⟨h.1, Eqv.set2 i h.2⟩
theorem Eqv.ticks {lab : Int} {A B : List Gst} (h : Eqv lab A B) (m : Nat) : Eqv lab (ticksD m A).1 (ticksD m B).1 := by
  induction m with
  | zero => exact h
  | succ m ih => exact ih.age
/-- a call for one that is not of the label -/
theorem Eqv.other {lab : Int} {A B : List Gst} (h : Eqv lab A B) {Q : Nat → Int} {o who conn n : Int} (h7 : bits .and .i64 o 7 ≠ 7) (hw : ∀ y, gAt A who = some y → y.label ≠ lab) : Eqv lab (doesD Q A o who conn n).1 B := by
  rcases does_shape Q A o who conn n h7 with e | ⟨y, y', hy, e, e1, _⟩
  · rw [e]; exact h
  rw [e]
  have hn := hw y hy
  obtain ⟨i, rfl, hx, ht⟩ := gAt_some hy
  rw [ht]
  exact h.setL i hx e1 hn
/-- a call for one of the label -/
theorem Eqv.mine {lab : Int} {A B : List Gst} (h : Eqv lab A B) {Q : Nat → Int} {o who conn n : Int} {y : Gst} (hA : gAt A who = some y) (hl : y.label = lab) : Eqv lab (doesD Q A o who conn n).1 (doesD Q B o who conn n).1 ∧ (doesD Q A o who conn n).2.2 = (doesD Q B o who conn n).2.2 := by
  by_cases h7 : bits .and .i64 o 7 = 7
  · rw [does_tick Q A o who conn n h7, does_tick Q B o who conn n h7]
    exact ⟨h.ticks _, rfl⟩
  have hs := h.seats
  obtain ⟨i, rfl, hx, ht⟩ := gAt_some hA
  obtain ⟨z, hz, _, hz2⟩ := h.get i hx
  obtain rfl := hz2 hl
  have hB : gAt B (i : Int) = some y := by rw [gAt_nat]; exact hz
  have two : ∀ (r : List Gst × Int) (s : List Gst × Int), (r = (A, s.2) ∧ s.1 = B ∨ ∃ y', r = (A.set i y', s.2) ∧ s.1 = B.set i y') → Eqv lab r.1 s.1 ∧ r.2 = s.2 := by
    rintro r s (⟨rfl, h2⟩ | ⟨y', rfl, h2⟩)
    · rw [h2]; exact ⟨h, rfl⟩
    · rw [h2]; exact ⟨h.set2 i, rfl⟩
  have hw := two (wrongD A (i : Int)) (wrongD B (i : Int)) (by
    unfold wrongD
    rw [hA, hB]
    simp only [ht]
    split
    · exact .inl ⟨rfl, rfl⟩
    · exact .inr ⟨_, rfl, rfl⟩)
  have ho := two (openD Q A (i : Int)) (openD Q B (i : Int)) (by
    unfold openD
    rw [hA, hB]
    simp only [ht, hl, hs]
    split
    · exact .inl ⟨rfl, rfl⟩
    · split
      · exact .inl ⟨rfl, rfl⟩
      · split
        · exact .inl ⟨rfl, rfl⟩
        · exact .inr ⟨_, rfl, rfl⟩)
  have hh := two (heardD A (i : Int)) (heardD B (i : Int)) (by
    unfold heardD
    rw [hA, hB]
    simp only [ht]
    split
    · exact .inr ⟨_, rfl, rfl⟩
    · exact .inl ⟨rfl, rfl⟩)
  have hsh := two (shutD A (i : Int)) (shutD B (i : Int)) (by
    unfold shutD
    rw [hA, hB]
    simp only [ht]
    split
    · exact .inr ⟨_, rfl, rfl⟩
    · exact .inl ⟨rfl, rfl⟩)
  have hb := two (beginD A (i : Int) conn) (beginD B (i : Int) conn) (by
    unfold beginD
    rw [hA, hB]
    simp only [ht]
    split
    · exact .inr ⟨_, rfl, rfl⟩
    · exact .inl ⟨rfl, rfl⟩)
  unfold doesD
  rw [if_neg h7, if_neg h7]
  by_cases z2 : bits .and .i64 o 7 = 2
  · simp only [if_pos z2]; exact hw
  simp only [if_neg z2]
  by_cases z3 : bits .and .i64 o 7 = 3
  · simp only [if_pos z3]; exact ho
  simp only [if_neg z3]
  by_cases z4 : bits .and .i64 o 7 = 4
  · simp only [if_pos z4]; exact ho
  simp only [if_neg z4]
  by_cases z5 : bits .and .i64 o 7 = 5
  · simp only [if_pos z5]; exact hh
  simp only [if_neg z5]
  by_cases z6 : bits .and .i64 o 7 = 6
  · simp only [if_pos z6]; exact hsh
  simp only [if_neg z6]
  exact hb
/-- another desk stays as it is when the guests of this one turn -/
theorem Ds.other {w w' : World} {g gg c nq : Nat} {sv : Value} {ex : List Value} {Q : Nat → Int} {D : List Gst} (h : Ds w g gg c nq sv ex Q D) {k : Nat} {cs : List Value} (hr : RowAt w k 77 cs) (ho : Only (· = k) w w') (hk : gg ≠ k) : Ds w' g gg c nq sv ex Q D := by
  have tag : ∀ {g' : Nat} {t : TypeId} {ds : List Value}, RowAt w g' t ds → t ≠ 77 → ¬ g' = k := by
    intro g' t ds h1 hne e
    subst e
    unfold RowAt at h1 hr
    rw [h1] at hr
    simp at hr
    exact hne hr.2
  exact ⟨⟨h.dk.obj.only ho (tag h.dk.obj (by decide)), h.dk.row.only ho hk, h.dk.pos, h.dk.le⟩, h.sq.only ho (fun gs cs hq => tag hq (by decide)), h.gin, h.n32⟩
end Go.Proofs.Ythgacmlbmcehmaa
