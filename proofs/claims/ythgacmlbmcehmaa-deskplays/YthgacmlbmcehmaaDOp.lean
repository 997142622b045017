/- A connection begins (Begin); a session begins (Open). -/
import Derived.Test.YthgacmlbmcehmaaDSt
namespace Go.Proofs.Ythgacmlbmcehmaa
set_option linter.unusedVariables false
set_option linter.unusedSimpArgs false
open Go.ChangeShapes Go.WideShapes Go.ChangeAt Go.RowKit Go.Joins Go.Deep

theorem Dk.six {w : World} {g gg c : Nat} {sv : Value} {ex : List Value} {D : List Gst} (h : Dk w g gg c sv ex D) {i : Nat} {x : Gst} (hx : D[i]? = some x) (l q : Int) (o : Bool) (s r k : Int) :
    Dk ((((((w.setCell ⟨gg, i * 6, none⟩ (.int .i64 l)).setCell ⟨gg, i * 6 + 1, none⟩ (.int .i64 q)).setCell ⟨gg, i * 6 + 2, none⟩ (.bool o)).setCell ⟨gg, i * 6 + 3, none⟩ (.int .i64 s)).setCell ⟨gg, i * 6 + 4, none⟩ (.int .i64 r)).setCell ⟨gg, i * 6 + 5, none⟩ (.int .i64 k)) g gg c sv ex (D.set i ⟨l, q, o, s, r, k⟩) := by
  have hi := (List.getElem?_eq_some_iff.1 hx).1
  have self : ∀ y : Gst, (D.set i y)[i]? = some y := fun y => List.getElem?_set_self hi
  have h0 := h.set (f := 0) (v := .int .i64 l) (x' := { x with label := l }) hx (by decide) rfl
  have h1 := h0.set (f := 1) (v := .int .i64 q) (x' := { x with label := l, conn := q }) (self _) (by decide) rfl
  rw [List.set_set] at h1
  have h2 := h1.set (f := 2) (v := .bool o) (x' := { x with label := l, conn := q, opn := o }) (self _) (by decide) rfl
  rw [List.set_set] at h2
  have h3 := h2.set (f := 3) (v := .int .i64 s) (x' := { x with label := l, conn := q, opn := o, silent := s }) (self _) (by decide) rfl
  rw [List.set_set] at h3
  have h4 := h3.set (f := 4) (v := .int .i64 r) (x' := { x with label := l, conn := q, opn := o, silent := s, wrong := r }) (self _) (by decide) rfl
  rw [List.set_set] at h4
  have h5 := h4.set (f := 5) (v := .int .i64 k) (x' := ⟨l, q, o, s, r, k⟩) (self _) (by decide) rfl
  rw [List.set_set] at h5
  exact h5
theorem Only.six (w : World) (g n : Nat) (a b c d e f : Value) : Only (· = g) w ((((((w.setCell ⟨g, n, none⟩ a).setCell ⟨g, n + 1, none⟩ b).setCell ⟨g, n + 2, none⟩ c).setCell ⟨g, n + 3, none⟩ d).setCell ⟨g, n + 4, none⟩ e).setCell ⟨g, n + 5, none⟩ f) :=
  ((((((Only.refl (· = g) w).set g _ _ rfl).set g _ _ rfl).set g _ _ rfl).set g _ _ rfl).set g _ _ rfl).set g _ _ rfl
set_option maxRecDepth 100000 in
set_option maxHeartbeats 4000000 in
theorem begin_no (g gg c : Nat) (sv : Value) (ex : List Value) (D : List Gst) (w : World) (h : Dk w g gg c sv ex D) (i : Nat) (x : Gst) (q : Int) (hx : D[i]? = some x) (hq : ¬ (knockE x q) = (true, 0)) :
    Calls Try.prog 31 #[.pointer (some ⟨g, 0, none⟩), .int .i64 (i : Int), .int .i64 q] w fun r w' => r = .returned (.int .i64 (if (knockE x q).2 = 0 then 130 else (knockE x q).2)) ∧ w = w' := by
  have HF := hide (knock_ok g gg c sv ex D w h i x q hx)
  have hcase : knockE x q = (false, 130) ∨ knockE x q = (false, 0) ∨ knockE x q = (false, 170) := by
    unfold knockE at hq ⊢
    split
    · exact .inl rfl
    · split
      · exact .inr (.inl rfl)
      · split
        · exact .inr (.inr rfl)
        · rename_i a b c; simp [a, b, c] at hq
  clear h hx hq
  rcases hcase with hE | hE | hE
  all_goals
    rw [hE] at HF ⊢
    clear hE
    go_enter Try.func31, Try.ntmps31
    go_wp2_with fail
    refine Calls.mono (unhide HF) ?_
    rintro r w1 ⟨rfl, rfl⟩
    go_wp2_with fail
    go_ret
    exact ⟨rfl, rfl⟩
set_option maxRecDepth 100000 in
set_option maxHeartbeats 4000000 in
theorem begin_ok (g gg c : Nat) (sv : Value) (ex : List Value) (D : List Gst) (w : World) (h : Dk w g gg c sv ex D) (i : Nat) (x : Gst) (q : Int) (hx : D[i]? = some x) (hq : (knockE x q) = (true, 0)) :
    Calls Try.prog 31 #[.pointer (some ⟨g, 0, none⟩), .int .i64 (i : Int), .int .i64 q] w fun r w' => r = .returned (.int .i64 0) ∧ Dk w' g gg c sv ex (D.set i ⟨x.label, q, false, 0, 0, 0⟩) ∧ Only (· = gg) w w' := by
  have HF := hide (knock_ok g gg c sv ex D w h i x q hx)
  rw [hq] at HF
  have c0 : w.cell? ⟨g, 0, none⟩ = some (.slice (some ⟨gg, 0, none⟩) D.length c) := h.obj.cell 0
  have hi := (List.getElem?_eq_some_iff.1 hx).1
  have hl := h.le
  obtain ⟨n, hn⟩ : ∃ n, D.length = n := ⟨_, rfl⟩
  rw [hn] at c0 hi hl
  have iI : (i : Int) < (n : Int) := by omega
  have nI : (n : Int) ≤ 8 := by omega
  have e0 : w.cell? ⟨gg, i * 6, none⟩ = some (.int .i64 x.label) := h.cell (f := 0) hx (by decide)
  have z0 : w.frozen? ⟨gg, i * 6, none⟩ = false := h.row.frozen _
  have HH := hide (And.intro h hx)
  have e1 : w.cell? ⟨gg, i * 6 + 1, none⟩ = some (.int .i64 x.conn) := h.cell hx (by decide)
  have e2 : w.cell? ⟨gg, i * 6 + 2, none⟩ = some (.bool x.opn) := h.cell hx (by decide)
  have e3 : w.cell? ⟨gg, i * 6 + 3, none⟩ = some (.int .i64 x.silent) := h.cell hx (by decide)
  have e4 : w.cell? ⟨gg, i * 6 + 4, none⟩ = some (.int .i64 x.wrong) := h.cell hx (by decide)
  have e5 : w.cell? ⟨gg, i * 6 + 5, none⟩ = some (.int .i64 x.locked) := h.cell hx (by decide)
  have z1 : w.frozen? ⟨gg, i * 6 + 1, none⟩ = false := h.row.frozen _
  have z2 : w.frozen? ⟨gg, i * 6 + 2, none⟩ = false := h.row.frozen _
  have z3 : w.frozen? ⟨gg, i * 6 + 3, none⟩ = false := h.row.frozen _
  have z4 : w.frozen? ⟨gg, i * 6 + 4, none⟩ = false := h.row.frozen _
  have z5 : w.frozen? ⟨gg, i * 6 + 5, none⟩ = false := h.row.frozen _
  clear h hx hq
  go_enter Try.func31, Try.ntmps31
  go_wp2_with fail
  refine Calls.mono (unhide HF) ?_
  rintro r w1 ⟨rfl, rfl⟩
  go_wp2_with fail
  go_region
  go_wp2_with fail
  go_ret
  obtain ⟨hd, hxx⟩ := unhide HH
  exact ⟨rfl, (Dk.six hd hxx x.label q false 0 0 0).call (Below.refl _ _).drew, (Only.six w gg (i * 6) _ _ _ _ _ _).drew⟩
/-- the seats that each label has -/
def Sq (w : World) (sv : Value) (n : Nat) (Q : Nat → Int) : Prop := ∃ gs cq, sv = .slice (some ⟨gs, 0, none⟩) n cq ∧ ∃ cs, RowAt w gs 3 cs ∧ ∀ j, j < n → cs[j]? = some (.int .i64 (Q j))
theorem Sq.only {p : Nat → Prop} {w w' : World} {sv : Value} {n : Nat} {Q : Nat → Int} (h : Sq w sv n Q) (ho : Only p w w') (hp : ∀ gs cs, RowAt w gs 3 cs → ¬ p gs) : Sq w' sv n Q := by
  obtain ⟨gs, cq, h1, cs, h2, h3⟩ := h
  exact ⟨gs, cq, h1, cs, h2.only ho (hp gs cs h2), h3⟩
theorem Sq.turn {w w' : World} {g gg c : Nat} {sv : Value} {ex : List Value} {D : List Gst} {n : Nat} {Q : Nat → Int} (h : Sq w sv n Q) (hd : Dk w g gg c sv ex D) (ho : Only (· = gg) w w') : Sq w' sv n Q :=
  h.only ho (fun gs cs hr e => by
    subst e
    have h2 := hd.row
    unfold RowAt at hr h2
    rw [hr] at h2
    simp at h2)
theorem Sq.call {w w' : World} {sv : Value} {n : Nat} {Q : Nat → Int} (h : Sq w sv n Q) (hb : Below w.heap.size w w') : Sq w' sv n Q := h.only (Only.of_below (p := fun _ => False) hb) (fun _ _ _ h => h)
/-- what stands while Open looks for a seat -/
def O8 (w : World) (g gg k gs l : Nat) (sv : Value) (lab q : Int) (w' : World) : Prop := ((w'.cell? ⟨g, 1, none⟩ = some sv ∧ w'.cell? ⟨gg, k, none⟩ = some (.int .i64 lab)) ∧ w'.cell? ⟨gs, l, none⟩ = some (.int .i64 q)) ∧ Below w.heap.size w w'
theorem O8.call {w W w1 : World} {g gg k gs l : Nat} {sv : Value} {lab q : Int} (h : O8 w g gg k gs l sv lab q W) (hb : Below W.heap.size W w1) : O8 w g gg k gs l sv lab q w1 := by
  obtain ⟨⟨⟨h1, h2⟩, h3⟩, h4⟩ := h
  exact ⟨⟨⟨cell_keep hb (World.block_lt_of_cell? _ _ h1) h1, cell_keep hb (World.block_lt_of_cell? _ _ h2) h2⟩, cell_keep hb (World.block_lt_of_cell? _ _ h3) h3⟩, h4.trans (hb.mono h4.size)⟩
set_option maxRecDepth 100000 in
set_option maxHeartbeats 4000000 in
theorem open_shut (g gg c : Nat) (sv : Value) (ex : List Value) (D : List Gst) (w : World) (h : Dk w g gg c sv ex D) (i : Nat) (x : Gst) (hx : D[i]? = some x) (hc : x.conn = 0) :
    Calls Try.prog 34 #[.pointer (some ⟨g, 0, none⟩), .int .i64 (i : Int)] w fun r w' => r = .returned (.int .i64 172) ∧ w = w' := by
  have HF := hide (find_ok g gg c sv ex D w h i x hx)
  have e1 : w.cell? ⟨gg, i * 6 + 1, none⟩ = some (.int .i64 x.conn) := h.cell hx (by decide)
  have e2 : w.cell? ⟨gg, i * 6 + 2, none⟩ = some (.bool x.opn) := h.cell hx (by decide)
  rw [hc] at e1
  clear h hx hc
  go_enter Try.func34, Try.ntmps34
  go_wp2_with fail
  refine Calls.mono (unhide HF) ?_
  rintro r w1 ⟨rfl, rfl⟩
  go_wp2_with fail
  go_ret
  exact ⟨rfl, rfl⟩
set_option maxRecDepth 100000 in
set_option maxHeartbeats 4000000 in
theorem open_is (g gg c : Nat) (sv : Value) (ex : List Value) (D : List Gst) (w : World) (h : Dk w g gg c sv ex D) (i : Nat) (x : Gst) (hx : D[i]? = some x) (hc : x.conn ≠ 0) (ho : x.opn = true) :
    Calls Try.prog 34 #[.pointer (some ⟨g, 0, none⟩), .int .i64 (i : Int)] w fun r w' => r = .returned (.int .i64 0) ∧ w = w' := by
  have HF := hide (find_ok g gg c sv ex D w h i x hx)
  have e1 : w.cell? ⟨gg, i * 6 + 1, none⟩ = some (.int .i64 x.conn) := h.cell hx (by decide)
  have e2 : w.cell? ⟨gg, i * 6 + 2, none⟩ = some (.bool x.opn) := h.cell hx (by decide)
  rw [ho] at e2
  have b1 : (x.conn == 0) = false := by simp [hc]
  clear h hx ho
  go_enter Try.func34, Try.ntmps34
  go_wp2_with fail
  refine Calls.mono (unhide HF) ?_
  rintro r w1 ⟨rfl, rfl⟩
  go_wp2_with fail
  go_ret
  exact ⟨rfl, rfl⟩
set_option maxRecDepth 100000 in
set_option maxHeartbeats 4000000 in
theorem open_full (g gg c : Nat) (sv : Value) (ex : List Value) (D : List Gst) (w : World) (h : Dk w g gg c sv ex D) (i lb nq : Nat) (Q : Nat → Int) (x : Gst) (hx : D[i]? = some x) (hc : x.conn ≠ 0) (ho : x.opn = false) (hq : Sq w sv nq Q) (hlb : x.label = (lb : Int)) (hln : lb < nq) (hnq : nq ≤ 32) (hs : Q lb ≤ (seatsN D x.label : Int)) :
    Calls Try.prog 34 #[.pointer (some ⟨g, 0, none⟩), .int .i64 (i : Int)] w fun r w' => r = .returned (.int .i64 171) ∧ Below w.heap.size w w' := by
  have HF := hide (find_ok g gg c sv ex D w h i x hx)
  have e1 : w.cell? ⟨gg, i * 6 + 1, none⟩ = some (.int .i64 x.conn) := h.cell hx (by decide)
  have e2 : w.cell? ⟨gg, i * 6 + 2, none⟩ = some (.bool x.opn) := h.cell hx (by decide)
  rw [ho] at e2
  have b1 : (x.conn == 0) = false := by simp [hc]
  have e0 : w.cell? ⟨gg, i * 6, none⟩ = some (.int .i64 x.label) := h.cell (f := 0) hx (by decide)
  rw [hlb] at e0 hs
  obtain ⟨gs, cq, rfl, cs, hr, hcs⟩ := hq
  have es : w.cell? ⟨gs, lb, none⟩ = some (.int .i64 (Q lb)) := by rw [hr.cell]; exact hcs lb hln
  have c1 : w.cell? ⟨g, 1, none⟩ = some (.slice (some ⟨gs, 0, none⟩) nq cq) := h.obj.cell 1
  have hst : O8 w g gg (i * 6) gs lb (.slice (some ⟨gs, 0, none⟩) nq cq) (lb : Int) (Q lb) w := ⟨⟨⟨c1, e0⟩, es⟩, Below.refl _ _⟩
  have HSE := hide (p := ∀ W, Below w.heap.size w W → _) (fun W hW => seats_ok g gg c _ ex D W (h.call hW) (lb : Int))
  have lI : (lb : Int) < (nq : Int) := by omega
  have nI : (nq : Int) ≤ 32 := by omega
  obtain ⟨sn, hsn⟩ : ∃ m, seatsN D (lb : Int) = m := ⟨_, rfl⟩
  rw [hsn] at HSE hs
  have HH := hide (And.intro h hx)
  clear h hx ho hr hcs hsn hlb hln hc
  go_enter Try.func34, Try.ntmps34
  go_wp2_with fail
  refine Calls.mono (unhide HF) ?_
  rintro r w1 ⟨rfl, rfl⟩
  go_wp2_with fail
  have k0 : Below w.heap.size w w.drew := (Below.refl _ _).drew
  go_region_held3 (fun w' => ((w'.cell? ⟨g, 1, none⟩ = some (.slice (some ⟨gs, 0, none⟩) nq cq) ∧ w'.cell? ⟨gg, i * 6, none⟩ = some (.int .i64 (lb : Int))) ∧ w'.cell? ⟨gs, lb, none⟩ = some (.int .i64 (Q lb))) ∧ Below w.heap.size w w')
    (first | exact O8.call hst k0 | exact O8.call hst (by assumption))
    (first | (go_at_call 27; with_reducible refine Calls.mono (unhide HSE w.drew k0) ?_; rintro e w2 ⟨rfl, b2⟩; have k2 : Below w.heap.size w w2 := k0.trans (b2.mono k0.size)))
  go_wp2_with fail
  go_ret
  exact ⟨rfl, k2⟩
set_option maxRecDepth 100000 in
set_option maxHeartbeats 4000000 in
theorem open_ok (g gg c : Nat) (sv : Value) (ex : List Value) (D : List Gst) (w : World) (h : Dk w g gg c sv ex D) (i lb nq : Nat) (Q : Nat → Int) (x : Gst) (hx : D[i]? = some x) (hc : x.conn ≠ 0) (ho : x.opn = false) (hq : Sq w sv nq Q) (hlb : x.label = (lb : Int)) (hln : lb < nq) (hnq : nq ≤ 32) (hs : ¬ Q lb ≤ (seatsN D x.label : Int)) :
    Calls Try.prog 34 #[.pointer (some ⟨g, 0, none⟩), .int .i64 (i : Int)] w fun r w' => r = .returned (.int .i64 0) ∧ Dk w' g gg c sv ex (D.set i { x with opn := true, silent := 0 }) ∧ Only (· = gg) w w' := by
  have HF := hide (find_ok g gg c sv ex D w h i x hx)
  have e1 : w.cell? ⟨gg, i * 6 + 1, none⟩ = some (.int .i64 x.conn) := h.cell hx (by decide)
  have e2 : w.cell? ⟨gg, i * 6 + 2, none⟩ = some (.bool x.opn) := h.cell hx (by decide)
  rw [ho] at e2
  have b1 : (x.conn == 0) = false := by simp [hc]
  have e0 : w.cell? ⟨gg, i * 6, none⟩ = some (.int .i64 x.label) := h.cell (f := 0) hx (by decide)
  rw [hlb] at e0 hs
  obtain ⟨gs, cq, rfl, cs, hr, hcs⟩ := hq
  have es : w.cell? ⟨gs, lb, none⟩ = some (.int .i64 (Q lb)) := by rw [hr.cell]; exact hcs lb hln
  have c1 : w.cell? ⟨g, 1, none⟩ = some (.slice (some ⟨gs, 0, none⟩) nq cq) := h.obj.cell 1
  have hst : O8 w g gg (i * 6) gs lb (.slice (some ⟨gs, 0, none⟩) nq cq) (lb : Int) (Q lb) w := ⟨⟨⟨c1, e0⟩, es⟩, Below.refl _ _⟩
  have HSE := hide (p := ∀ W, Below w.heap.size w W → _) (fun W hW => seats_ok g gg c _ ex D W (h.call hW) (lb : Int))
  have lI : (lb : Int) < (nq : Int) := by omega
  have nI : (nq : Int) ≤ 32 := by omega
  obtain ⟨sn, hsn⟩ : ∃ m, seatsN D (lb : Int) = m := ⟨_, rfl⟩
  rw [hsn] at HSE hs
  have HH := hide (And.intro h hx)
  clear h hx ho hr hcs hsn hlb hln hc
  go_enter Try.func34, Try.ntmps34
  go_wp2_with fail
  refine Calls.mono (unhide HF) ?_
  rintro r w1 ⟨rfl, rfl⟩
  go_wp2_with fail
  have k0 : Below w.heap.size w w.drew := (Below.refl _ _).drew
  go_region_held3 (fun w' => ((w'.cell? ⟨g, 1, none⟩ = some (.slice (some ⟨gs, 0, none⟩) nq cq) ∧ w'.cell? ⟨gg, i * 6, none⟩ = some (.int .i64 (lb : Int))) ∧ w'.cell? ⟨gs, lb, none⟩ = some (.int .i64 (Q lb))) ∧ Below w.heap.size w w')
    (first | exact O8.call hst k0 | exact O8.call hst (by assumption))
    (first | (go_at_call 27; with_reducible refine Calls.mono (unhide HSE w.drew k0) ?_; rintro e w2 ⟨rfl, b2⟩; have k2 : Below w.heap.size w w2 := k0.trans (b2.mono k0.size)))
  obtain ⟨h, hx⟩ := unhide HH
  have hd2 := h.call k2
  have hi := (List.getElem?_eq_some_iff.1 hx).1
  have self : ∀ y : Gst, (D.set i y)[i]? = some y := fun y => List.getElem?_set_self hi
  have f2 : w2.cell? ⟨gg, i * 6 + 2, none⟩ = some (.bool x.opn) := hd2.cell hx (by decide)
  have z2 : w2.frozen? ⟨gg, i * 6 + 2, none⟩ = false := hd2.row.frozen _
  have hd3 := hd2.set (f := 2) (v := .bool true) (x' := { x with opn := true }) hx (by decide) rfl
  have f3 : (w2.setCell ⟨gg, i * 6 + 2, none⟩ (.bool true)).cell? ⟨gg, i * 6 + 3, none⟩ = some (.int .i64 x.silent) := hd3.cell (x := { x with opn := true }) (self _) (by decide)
  have z3 : (w2.setCell ⟨gg, i * 6 + 2, none⟩ (.bool true)).frozen? ⟨gg, i * 6 + 3, none⟩ = false := hd3.row.frozen _
  have hd4 := hd3.set (f := 3) (v := .int .i64 0) (x' := { x with opn := true, silent := 0 }) (self _) (by decide) rfl
  rw [List.set_set] at hd4
  have hon : Only (· = gg) w ((w2.setCell ⟨gg, i * 6 + 2, none⟩ (.bool true)).setCell ⟨gg, i * 6 + 3, none⟩ (.int .i64 0)) := ((Only.of_below (p := (· = gg)) k2).set gg _ _ rfl).set gg _ _ rfl
  clear self hi hd2 hd3
  go_wp2_with fail
  go_ret
  exact ⟨rfl, hd4, hon⟩
end Go.Proofs.Ythgacmlbmcehmaa
