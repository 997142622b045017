/- A tick, by the document. -/
import Derived.Test.YthgacmlbmcehmaaDRo
namespace Go.Proofs.Ythgacmlbmcehmaa
set_option linter.unusedVariables false
set_option linter.unusedSimpArgs false
open Go.ChangeShapes Go.WideShapes Go.ChangeAt Go.RowKit Go.Joins Go.Deep

structure Rok (x : Rg) : Prop where
  s0 : 0 ≤ x.silent
  s1 : x.silent ≤ 23
  l0 : 0 ≤ x.locked
  l1 : x.locked ≤ 20
  w0 : 0 ≤ x.wrong
  w1 : x.wrong ≤ 2
def overR (x : Rg) : Bool := x.opn && decide (x.silent + 1 = 24)
def ageR (x : Rg) : Rg := if overR x then { x with opn := false, silent := 0, locked := max (x.locked - 1) 0 } else if x.opn then { x with silent := x.silent + 1, locked := max (x.locked - 1) 0 } else { x with locked := max (x.locked - 1) 0 }
def oversR (R : List Rg) (k : Nat) : List Int := ((List.range k).filter (fun j => (R[j]?.map overR).getD false)).map (fun j : Nat => (j : Int))
theorem oversR_le (D : List Rg) (k : Nat) : (oversR D k).length ≤ k := by
  unfold oversR
  rw [List.length_map]
  have h := List.length_filter_le (fun j => (D[j]?.map overR).getD false) (List.range k)
  rw [List.length_range] at h
  exact h
theorem oversR_no {D : List Rg} {k : Nat} {x : Rg} (hx : D[k]? = some x) (ho : overR x = false) : oversR D (k + 1) = oversR D k := by
  unfold oversR
  rw [List.range_succ, List.filter_append, List.map_append]
  simp [hx, ho]
theorem oversR_is {D : List Rg} {k : Nat} {x : Rg} (hx : D[k]? = some x) (ho : overR x = true) : oversR D (k + 1) = oversR D k ++ [(k : Int)] := by
  unfold oversR
  rw [List.range_succ, List.filter_append, List.map_append]
  simp [hx, ho]
def agedR (D : List Rg) (k : Nat) : List Rg := (D.take k).map ageR ++ D.drop k
theorem agedR_len (D : List Rg) (k : Nat) : (agedR D k).length = D.length := by simp [agedR]; omega
theorem agedR_set {D : List Rg} {k : Nat} {x : Rg} (hx : D[k]? = some x) : (agedR D k).set k (ageR x) = agedR D (k + 1) := by
  have hk := (List.getElem?_eq_some_iff.1 hx).1
  have e : D.drop k = x :: D.drop (k + 1) := by
    rw [List.drop_eq_getElem_cons hk]
    have := (List.getElem?_eq_some_iff.1 hx).2
    rw [this]
  unfold agedR
  rw [e, List.set_append_right _ _ (by simp; omega)]
  simp only [List.length_map, List.length_take]
  rw [show k - min k D.length = 0 by omega, List.set_cons_zero, List.take_add_one, hx, List.map_append]
  simp
theorem agedR_all (D : List Rg) : agedR D D.length = D.map ageR := by simp [agedR]
/-- a tick that is under way -/
structure Rt (w wr : World) (g : Nat) (s0 s1 s2 : Value) (R : List Rg) (k : Nat) (v : Value) : Prop where
  rk : ∃ gg c ex, Rk wr g gg c s0 s1 s2 ex (agedR R k)
  own : wr.ownsRow w.heap.size 3 1 v (oversR R k).length ((oversR R k).map (Value.int IntKind.i64))
  only : Only (· = g) w wr
  nil : oversR R k = [] → v = .slice none 0 0
theorem rtag {w : World} {g g' : Nat} {t t' : TypeId} {cs cs' : List Value} (h : RowAt w g t cs) (h' : RowAt w g' t' cs') (hne : t ≠ t') : g ≠ g' := by
  intro e
  subst e
  unfold RowAt at h h'
  rw [h] at h'
  simp at h'
  exact hne h'.2
theorem wpList_append_int2 {ops : Array Oper} {rest : List Oper} {o : Oper} {a : Act} {Q : Exit → Act → World → Prop} {W : World} (hgd : o.guard = none) (s x : Operand)
    (ho : o.op = .call { callee := .builtin .append, args := #[s, x], argTypes := #[41, 41] }) (B : Nat) (v : Value) (n : Nat) (xs : List Value) (u : Int)
    (hs : a.eval s = v) (hv : W.ownsRow B 3 1 v n xs) (hn : n ≤ 1000) (hB : B ≤ W.heap.size) (H : Nat) (hH : W.heap.size = H) (hx : a.eval x = .slice (some ⟨H, 0, none⟩) 1 1)
    (h : ∀ v' w', w'.ownsRow B 3 1 v' (n + 1) (xs ++ [.int .i64 u]) → Only (fun q => v.ownBlock = some q) W w' → wpList Try.prog ops Q rest (a.put o.dst v') w') : wpList Try.prog ops Q (o :: rest) a (W.alloc (.cells #[.int .i64 u] 3)) := by
  subst hH
  exact wpList_append_int hgd s x ho B v n xs u hs hv hn hB hx h
theorem Only.next2 {p q : Nat → Prop} {a b c : World} (h : Only p a b) (k : Only q b c) : Only (fun i => p i ∨ q i) a c := (h.mono (fun i hi => .inl hi)).trans (k.mono (fun i hi => .inr hi))
theorem Rk.keep {w w1 w2 : World} {g gg c : Nat} {s0 s1 s2 : Value} {ex : List Value} {R : List Rg} {v : Value} (h : Rk w g gg c s0 s1 s2 ex R) (hb : Below w.heap.size w w1) (ho : Only (fun q => v.ownBlock = some q) w1 w2) (e1 : v.ownBlock ≠ some g) (e2 : v.ownBlock ≠ some gg) : Rk w2 g gg c s0 s1 s2 ex R :=
  ⟨(h.call hb).obj.only ho e1, (h.call hb).row.only ho e2, h.pos, h.le, h.cap⟩
set_option maxRecDepth 100000 in
set_option maxHeartbeats 4000000 in
theorem rtick_ok {w : World} {g gg c : Nat} {s0 s1 s2 : Value} {ex : List Value} {R : List Rg} (h : Rk w g gg c s0 s1 s2 ex R) (hok : ∀ x ∈ R, Rok x) : Calls Try.prog 22 #[.pointer (some ⟨g, 0, none⟩)] w fun r w' => ∃ v, r = .returned v ∧ Rt w w' g s0 s1 s2 R R.length v := by
  have c3 : w.cell? ⟨g, 3, none⟩ = some (.slice (some ⟨gg, 0, none⟩) R.length c) := h.obj.cell 3
  have HT : Hid (Rt w w g s0 s1 s2 R 0 (.slice none 0 0)) := hide ⟨⟨gg, c, ex, by simpa [agedR] using h⟩, World.ownsRow_nil _ _ _ _, Only.refl _ _, fun _ => rfl⟩
  have HH := hide h
  have HOK := hide hok
  have HNE := hide (rtag h.row h.obj (by decide))
  have hl := h.le
  obtain ⟨n, hn⟩ : ∃ n, R.length = n := ⟨_, rfl⟩
  rw [hn] at c3 hl ⊢
  have HN := hide hn
  have n8 : (n : Int) ≤ 8 := by omega
  clear h hok hn
  go_enter Try.func22, Try.ntmps22
  go_wp2_with fail
  clear c3
  go_loopw [3, 11] (fun a s wr => ∃ k : Nat, k ≤ n ∧ s = .int .i64 (k : Int) ∧ Hid (Rt w wr g s0 s1 s2 R k a)) (fun _ s _ => ((n : Int) - intOf s).toNat)
  case atStart => exact ⟨0, by omega, by simp, HT⟩
  case round =>
    clear HT
    obtain ⟨k, hk, rfl, HI⟩ := hrel
    by_cases hlt : k < n
    · have kI : (k : Int) < (n : Int) := by omega
      obtain ⟨x, hx⟩ : ∃ x, R[k]? = some x := ⟨_, List.getElem?_eq_getElem (by have := unhide HN; omega)⟩
      have hrow := (unhide HH).row.only (unhide HI).only (unhide HNE)
      have hcell : ∀ f, f < 5 → wr.cell? ⟨gg, k * 5 + f, none⟩ = (rv x)[f]? := fun f hf => by
        rw [hrow.cell, List.getElem?_append_left (by rw [rsv_len]; have := (List.getElem?_eq_some_iff.1 hx).1; omega)]
        exact rsv_get R k f x hx hf
      have e0 : wr.cell? ⟨gg, k * 5, none⟩ = some (.int .i64 x.conn) := hcell 0 (by decide)
      have e1 : wr.cell? ⟨gg, k * 5 + 1, none⟩ = some (.bool x.opn) := hcell 1 (by decide)
      have e2 : wr.cell? ⟨gg, k * 5 + 2, none⟩ = some (.int .i64 x.silent) := hcell 2 (by decide)
      have e3 : wr.cell? ⟨gg, k * 5 + 3, none⟩ = some (.int .i64 x.wrong) := hcell 3 (by decide)
      have e4 : wr.cell? ⟨gg, k * 5 + 4, none⟩ = some (.int .i64 x.locked) := hcell 4 (by decide)
      have hxo := unhide HOK x (List.mem_of_getElem? hx)
      have b1 := hxo.s0
      have b2 := hxo.s1
      have b3 := hxo.l0
      have b4 := hxo.l1
      have HX := hide hx
      clear hx hrow hcell hxo
      by_cases hlk : x.locked = 0
      · cases ho : x.opn with
        | false =>
          have hov : overR x = false := by simp [overR, ho]
          have hag : ageR x = { x with opn := false, locked := 0 } := by unfold ageR; rw [hov]; simp [ho]; omega
          have HAG := hide hag
          have HOV := hide hov
          clear hag hov
          rw [hlk] at e4
          rw [ho] at e1
          have hs24 : (x.silent == 24) = false := by simp; omega
          go_wp2_with fail
          obtain ⟨gg', c', ex', hk'⟩ := (unhide HI).rk
          refine Calls.mono (rset_ok g gg' c' s0 s1 s2 ex' _ _ (hk'.call (by go_grown)) k (by rw [agedR_len, unhide HN]; exact hlt) { x with opn := false, locked := 0 }) ?_
          rintro r w9 ⟨rfl, ⟨gg2, c2, ex2, hd, -⟩, ho9⟩
          have HN9 : Hid (Rt w w9 g s0 s1 s2 R (k + 1) u3) := hide (by
            have hon : Only (· = g) wr w9 := (Only.of_below (by go_grown)).trans ho9
            refine ⟨⟨gg2, c2, ex2, by rw [← agedR_set (unhide HX), unhide HAG]; exact hd⟩, ?_, (unhide HI).only.trans hon, fun e => (unhide HI).nil (by rw [oversR_no (unhide HX) (unhide HOV)] at e; exact e)⟩
            rw [oversR_no (unhide HX) (unhide HOV)]
            exact own_only (unhide HI).own hon (fun q hq e => tag_ne (unhide HI).own hk'.obj (by decide) (e ▸ hq)))
          clear hd ho9 hk'
          go_wp2_with fail
          exact ⟨⟨k + 1, by omega, by simp, HN9⟩, by simp [intOf]; omega⟩
        | true =>
          by_cases hs : x.silent + 1 = 24
          · skip
            have hov : overR x = true := by simp [overR, ho]; omega
            have hag : ageR x = { x with opn := false, silent := 0, locked := 0 } := by unfold ageR; rw [hov]; simp [ho]; omega
            have HAG := hide hag
            have HOV := hide hov
            clear hag hov
            rw [hlk] at e4
            rw [ho] at e1
            have hs23 : x.silent = 23 := by omega
            rw [hs23] at e2
            have hol := oversR_le R k
            have HWB : Hid (Below wr.heap.size wr (wr.alloc (.cells #[.int .i64 x.conn, .bool false, .int .i64 0, .int .i64 x.wrong, .int .i64 (0)] 53))) := hide ((Below.refl _ _).alloc (Nat.le_refl _) _)
            have HOW := hide (own_call (unhide HI).own (unhide HWB))
            have HSZ := hide (Nat.le_trans (unhide HI).only.size (unhide HWB).size)
            have HYR := hide (RowAt.new wr 53 [.int .i64 x.conn, .bool false, .int .i64 0, .int .i64 x.wrong, .int .i64 (0)])
            go_wp2_with (refine wpList_append_int2 rfl _ _ rfl w.heap.size u3 (oversR R k).length ((oversR R k).map (Value.int IntKind.i64)) (k : Int) rfl (unhide HOW) (by omega) (unhide HSZ) (wr.heap.size + 1) (size_alloc _ _) rfl (fun v' w' hv' ho' => ?_); have hyr := (unhide HYR).only ho' (fun e => tag_ne (unhide HOW) (unhide HYR) (by decide) e); have y0 : w'.cell? ⟨wr.heap.size, 0, none⟩ = some (.int .i64 x.conn) := hyr.cell 0; have y1 : w'.cell? ⟨wr.heap.size, 1, none⟩ = some (.bool false) := hyr.cell 1; have y2 : w'.cell? ⟨wr.heap.size, 2, none⟩ = some (.int .i64 0) := hyr.cell 2; have y3 : w'.cell? ⟨wr.heap.size, 3, none⟩ = some (.int .i64 x.wrong) := hyr.cell 3; have y4 : w'.cell? ⟨wr.heap.size, 4, none⟩ = some (.int .i64 (0)) := hyr.cell 4; have HV' := hide hv'; have HO' := hide ho'; clear hv' ho' hyr)
            obtain ⟨gg', c', ex', hk'⟩ := (unhide HI).rk
            have HKW := hide (hk'.keep (unhide HWB) (unhide HO') (tag_ne (unhide HOW) (hk'.call (unhide HWB)).obj (by decide)) (tag_ne (unhide HOW) (hk'.call (unhide HWB)).row (by decide)))
            refine Calls.mono (rset_ok g gg' c' s0 s1 s2 ex' _ _ (unhide HKW) k (by rw [agedR_len, unhide HN]; exact hlt) { x with opn := false, silent := 0, locked := 0 }) ?_
            rintro r w9 ⟨rfl, ⟨gg2, c2, ex2, hd, -⟩, ho9⟩
            have HN9 : Hid (Rt w w9 g s0 s1 s2 R (k + 1) v') := hide (by
              refine ⟨⟨gg2, c2, ex2, by rw [← agedR_set (unhide HX), unhide HAG]; exact hd⟩, ?_, ((unhide HI).only.trans (Only.of_below (unhide HWB))).next ((unhide HO').next2 ho9) (fun q hq => ?_), fun e => absurd e (by rw [oversR_is (unhide HX) (unhide HOV)]; simp)⟩
              · rw [oversR_is (unhide HX) (unhide HOV), List.length_append, List.length_singleton, List.map_append]
                exact own_only (unhide HV') ho9 (fun q hq e => tag_ne (unhide HV') (unhide HKW).obj (by decide) (e ▸ hq))
              · rcases hq with h1 | h1
                · exact .inr ((unhide HOW).lt q h1).1
                · exact .inl h1)
            clear hd ho9 HKW hk'
            go_wp2_with fail
            exact ⟨⟨k + 1, by omega, by simp, HN9⟩, by simp [intOf]; omega⟩
          · skip
            have hov : overR x = false := by simp [overR, ho]; omega
            have hag : ageR x = { x with opn := true, silent := x.silent + 1, locked := 0 } := by unfold ageR; rw [hov]; simp [ho]; omega
            have HAG := hide hag
            have HOV := hide hov
            clear hag hov
            rw [hlk] at e4
            rw [ho] at e1
            have hs24 : (x.silent + 1 == 24) = false := by simp; omega
            go_wp2_with fail
            obtain ⟨gg', c', ex', hk'⟩ := (unhide HI).rk
            refine Calls.mono (rset_ok g gg' c' s0 s1 s2 ex' _ _ (hk'.call (by go_grown)) k (by rw [agedR_len, unhide HN]; exact hlt) { x with opn := true, silent := x.silent + 1, locked := 0 }) ?_
            rintro r w9 ⟨rfl, ⟨gg2, c2, ex2, hd, -⟩, ho9⟩
            have HN9 : Hid (Rt w w9 g s0 s1 s2 R (k + 1) u3) := hide (by
              have hon : Only (· = g) wr w9 := (Only.of_below (by go_grown)).trans ho9
              refine ⟨⟨gg2, c2, ex2, by rw [← agedR_set (unhide HX), unhide HAG]; exact hd⟩, ?_, (unhide HI).only.trans hon, fun e => (unhide HI).nil (by rw [oversR_no (unhide HX) (unhide HOV)] at e; exact e)⟩
              rw [oversR_no (unhide HX) (unhide HOV)]
              exact own_only (unhide HI).own hon (fun q hq e => tag_ne (unhide HI).own hk'.obj (by decide) (e ▸ hq)))
            clear hd ho9 hk'
            go_wp2_with fail
            exact ⟨⟨k + 1, by omega, by simp, HN9⟩, by simp [intOf]; omega⟩
      have hlk0 := hlk
      clear hlk
      by_cases hlk : x.locked = 1
      · cases ho : x.opn with
        | false =>
          have hov : overR x = false := by simp [overR, ho]
          have hag : ageR x = { x with opn := false, locked := 0 } := by unfold ageR; rw [hov]; simp [ho]; omega
          have HAG := hide hag
          have HOV := hide hov
          clear hag hov
          rw [hlk] at e4
          rw [ho] at e1
          have hs24 : (x.silent == 24) = false := by simp; omega
          go_wp2_with fail
          obtain ⟨gg', c', ex', hk'⟩ := (unhide HI).rk
          refine Calls.mono (rset_ok g gg' c' s0 s1 s2 ex' _ _ (hk'.call (by go_grown)) k (by rw [agedR_len, unhide HN]; exact hlt) { x with opn := false, locked := 0 }) ?_
          rintro r w9 ⟨rfl, ⟨gg2, c2, ex2, hd, -⟩, ho9⟩
          have HN9 : Hid (Rt w w9 g s0 s1 s2 R (k + 1) u3) := hide (by
            have hon : Only (· = g) wr w9 := (Only.of_below (by go_grown)).trans ho9
            refine ⟨⟨gg2, c2, ex2, by rw [← agedR_set (unhide HX), unhide HAG]; exact hd⟩, ?_, (unhide HI).only.trans hon, fun e => (unhide HI).nil (by rw [oversR_no (unhide HX) (unhide HOV)] at e; exact e)⟩
            rw [oversR_no (unhide HX) (unhide HOV)]
            exact own_only (unhide HI).own hon (fun q hq e => tag_ne (unhide HI).own hk'.obj (by decide) (e ▸ hq)))
          clear hd ho9 hk'
          go_wp2_with fail
          exact ⟨⟨k + 1, by omega, by simp, HN9⟩, by simp [intOf]; omega⟩
        | true =>
          by_cases hs : x.silent + 1 = 24
          · skip
            have hov : overR x = true := by simp [overR, ho]; omega
            have hag : ageR x = { x with opn := false, silent := 0, locked := 0 } := by unfold ageR; rw [hov]; simp [ho]; omega
            have HAG := hide hag
            have HOV := hide hov
            clear hag hov
            rw [hlk] at e4
            rw [ho] at e1
            have hs23 : x.silent = 23 := by omega
            rw [hs23] at e2
            have hol := oversR_le R k
            have HWB : Hid (Below wr.heap.size wr (wr.alloc (.cells #[.int .i64 x.conn, .bool false, .int .i64 0, .int .i64 x.wrong, .int .i64 (0)] 53))) := hide ((Below.refl _ _).alloc (Nat.le_refl _) _)
            have HOW := hide (own_call (unhide HI).own (unhide HWB))
            have HSZ := hide (Nat.le_trans (unhide HI).only.size (unhide HWB).size)
            have HYR := hide (RowAt.new wr 53 [.int .i64 x.conn, .bool false, .int .i64 0, .int .i64 x.wrong, .int .i64 (0)])
            go_wp2_with (refine wpList_append_int2 rfl _ _ rfl w.heap.size u3 (oversR R k).length ((oversR R k).map (Value.int IntKind.i64)) (k : Int) rfl (unhide HOW) (by omega) (unhide HSZ) (wr.heap.size + 1) (size_alloc _ _) rfl (fun v' w' hv' ho' => ?_); have hyr := (unhide HYR).only ho' (fun e => tag_ne (unhide HOW) (unhide HYR) (by decide) e); have y0 : w'.cell? ⟨wr.heap.size, 0, none⟩ = some (.int .i64 x.conn) := hyr.cell 0; have y1 : w'.cell? ⟨wr.heap.size, 1, none⟩ = some (.bool false) := hyr.cell 1; have y2 : w'.cell? ⟨wr.heap.size, 2, none⟩ = some (.int .i64 0) := hyr.cell 2; have y3 : w'.cell? ⟨wr.heap.size, 3, none⟩ = some (.int .i64 x.wrong) := hyr.cell 3; have y4 : w'.cell? ⟨wr.heap.size, 4, none⟩ = some (.int .i64 (0)) := hyr.cell 4; have HV' := hide hv'; have HO' := hide ho'; clear hv' ho' hyr)
            obtain ⟨gg', c', ex', hk'⟩ := (unhide HI).rk
            have HKW := hide (hk'.keep (unhide HWB) (unhide HO') (tag_ne (unhide HOW) (hk'.call (unhide HWB)).obj (by decide)) (tag_ne (unhide HOW) (hk'.call (unhide HWB)).row (by decide)))
            refine Calls.mono (rset_ok g gg' c' s0 s1 s2 ex' _ _ (unhide HKW) k (by rw [agedR_len, unhide HN]; exact hlt) { x with opn := false, silent := 0, locked := 0 }) ?_
            rintro r w9 ⟨rfl, ⟨gg2, c2, ex2, hd, -⟩, ho9⟩
            have HN9 : Hid (Rt w w9 g s0 s1 s2 R (k + 1) v') := hide (by
              refine ⟨⟨gg2, c2, ex2, by rw [← agedR_set (unhide HX), unhide HAG]; exact hd⟩, ?_, ((unhide HI).only.trans (Only.of_below (unhide HWB))).next ((unhide HO').next2 ho9) (fun q hq => ?_), fun e => absurd e (by rw [oversR_is (unhide HX) (unhide HOV)]; simp)⟩
              · rw [oversR_is (unhide HX) (unhide HOV), List.length_append, List.length_singleton, List.map_append]
                exact own_only (unhide HV') ho9 (fun q hq e => tag_ne (unhide HV') (unhide HKW).obj (by decide) (e ▸ hq))
              · rcases hq with h1 | h1
                · exact .inr ((unhide HOW).lt q h1).1
                · exact .inl h1)
            clear hd ho9 HKW hk'
            go_wp2_with fail
            exact ⟨⟨k + 1, by omega, by simp, HN9⟩, by simp [intOf]; omega⟩
          · skip
            have hov : overR x = false := by simp [overR, ho]; omega
            have hag : ageR x = { x with opn := true, silent := x.silent + 1, locked := 0 } := by unfold ageR; rw [hov]; simp [ho]; omega
            have HAG := hide hag
            have HOV := hide hov
            clear hag hov
            rw [hlk] at e4
            rw [ho] at e1
            have hs24 : (x.silent + 1 == 24) = false := by simp; omega
            go_wp2_with fail
            obtain ⟨gg', c', ex', hk'⟩ := (unhide HI).rk
            refine Calls.mono (rset_ok g gg' c' s0 s1 s2 ex' _ _ (hk'.call (by go_grown)) k (by rw [agedR_len, unhide HN]; exact hlt) { x with opn := true, silent := x.silent + 1, locked := 0 }) ?_
            rintro r w9 ⟨rfl, ⟨gg2, c2, ex2, hd, -⟩, ho9⟩
            have HN9 : Hid (Rt w w9 g s0 s1 s2 R (k + 1) u3) := hide (by
              have hon : Only (· = g) wr w9 := (Only.of_below (by go_grown)).trans ho9
              refine ⟨⟨gg2, c2, ex2, by rw [← agedR_set (unhide HX), unhide HAG]; exact hd⟩, ?_, (unhide HI).only.trans hon, fun e => (unhide HI).nil (by rw [oversR_no (unhide HX) (unhide HOV)] at e; exact e)⟩
              rw [oversR_no (unhide HX) (unhide HOV)]
              exact own_only (unhide HI).own hon (fun q hq e => tag_ne (unhide HI).own hk'.obj (by decide) (e ▸ hq)))
            clear hd ho9 hk'
            go_wp2_with fail
            exact ⟨⟨k + 1, by omega, by simp, HN9⟩, by simp [intOf]; omega⟩
      · cases ho : x.opn with
        | false =>
          have hov : overR x = false := by simp [overR, ho]
          have hag : ageR x = { x with opn := false, locked := x.locked - 1 } := by unfold ageR; rw [hov]; simp [ho]; omega
          have HAG := hide hag
          have HOV := hide hov
          clear hag hov
          have m4 : ¬ x.locked ≤ 1 := by omega
          have m5 : (1 : Int) < x.locked := by omega
          have m1 : ¬ x.locked - 1 < 0 := by omega
          have m2 : (0 : Int) ≤ x.locked - 1 := by omega
          have m3 : ¬ (0 : Int) > x.locked - 1 := by omega
          rw [ho] at e1
          have hs24 : (x.silent == 24) = false := by simp; omega
          go_wp2_with fail
          obtain ⟨gg', c', ex', hk'⟩ := (unhide HI).rk
          refine Calls.mono (rset_ok g gg' c' s0 s1 s2 ex' _ _ (hk'.call (by go_grown)) k (by rw [agedR_len, unhide HN]; exact hlt) { x with opn := false, locked := x.locked - 1 }) ?_
          rintro r w9 ⟨rfl, ⟨gg2, c2, ex2, hd, -⟩, ho9⟩
          have HN9 : Hid (Rt w w9 g s0 s1 s2 R (k + 1) u3) := hide (by
            have hon : Only (· = g) wr w9 := (Only.of_below (by go_grown)).trans ho9
            refine ⟨⟨gg2, c2, ex2, by rw [← agedR_set (unhide HX), unhide HAG]; exact hd⟩, ?_, (unhide HI).only.trans hon, fun e => (unhide HI).nil (by rw [oversR_no (unhide HX) (unhide HOV)] at e; exact e)⟩
            rw [oversR_no (unhide HX) (unhide HOV)]
            exact own_only (unhide HI).own hon (fun q hq e => tag_ne (unhide HI).own hk'.obj (by decide) (e ▸ hq)))
          clear hd ho9 hk'
          go_wp2_with fail
          exact ⟨⟨k + 1, by omega, by simp, HN9⟩, by simp [intOf]; omega⟩
        | true =>
          by_cases hs : x.silent + 1 = 24
          · skip
            have hov : overR x = true := by simp [overR, ho]; omega
            have hag : ageR x = { x with opn := false, silent := 0, locked := x.locked - 1 } := by unfold ageR; rw [hov]; simp [ho]; omega
            have HAG := hide hag
            have HOV := hide hov
            clear hag hov
            have m4 : ¬ x.locked ≤ 1 := by omega
            have m5 : (1 : Int) < x.locked := by omega
            have m1 : ¬ x.locked - 1 < 0 := by omega
            have m2 : (0 : Int) ≤ x.locked - 1 := by omega
            have m3 : ¬ (0 : Int) > x.locked - 1 := by omega
            rw [ho] at e1
            have hs23 : x.silent = 23 := by omega
            rw [hs23] at e2
            have hol := oversR_le R k
            have HWB : Hid (Below wr.heap.size wr (wr.alloc (.cells #[.int .i64 x.conn, .bool false, .int .i64 0, .int .i64 x.wrong, .int .i64 (x.locked - 1)] 53))) := hide ((Below.refl _ _).alloc (Nat.le_refl _) _)
            have HOW := hide (own_call (unhide HI).own (unhide HWB))
            have HSZ := hide (Nat.le_trans (unhide HI).only.size (unhide HWB).size)
            have HYR := hide (RowAt.new wr 53 [.int .i64 x.conn, .bool false, .int .i64 0, .int .i64 x.wrong, .int .i64 (x.locked - 1)])
            go_wp2_with (refine wpList_append_int2 rfl _ _ rfl w.heap.size u3 (oversR R k).length ((oversR R k).map (Value.int IntKind.i64)) (k : Int) rfl (unhide HOW) (by omega) (unhide HSZ) (wr.heap.size + 1) (size_alloc _ _) rfl (fun v' w' hv' ho' => ?_); have hyr := (unhide HYR).only ho' (fun e => tag_ne (unhide HOW) (unhide HYR) (by decide) e); have y0 : w'.cell? ⟨wr.heap.size, 0, none⟩ = some (.int .i64 x.conn) := hyr.cell 0; have y1 : w'.cell? ⟨wr.heap.size, 1, none⟩ = some (.bool false) := hyr.cell 1; have y2 : w'.cell? ⟨wr.heap.size, 2, none⟩ = some (.int .i64 0) := hyr.cell 2; have y3 : w'.cell? ⟨wr.heap.size, 3, none⟩ = some (.int .i64 x.wrong) := hyr.cell 3; have y4 : w'.cell? ⟨wr.heap.size, 4, none⟩ = some (.int .i64 (x.locked - 1)) := hyr.cell 4; have HV' := hide hv'; have HO' := hide ho'; clear hv' ho' hyr)
            obtain ⟨gg', c', ex', hk'⟩ := (unhide HI).rk
            have HKW := hide (hk'.keep (unhide HWB) (unhide HO') (tag_ne (unhide HOW) (hk'.call (unhide HWB)).obj (by decide)) (tag_ne (unhide HOW) (hk'.call (unhide HWB)).row (by decide)))
            refine Calls.mono (rset_ok g gg' c' s0 s1 s2 ex' _ _ (unhide HKW) k (by rw [agedR_len, unhide HN]; exact hlt) { x with opn := false, silent := 0, locked := x.locked - 1 }) ?_
            rintro r w9 ⟨rfl, ⟨gg2, c2, ex2, hd, -⟩, ho9⟩
            have HN9 : Hid (Rt w w9 g s0 s1 s2 R (k + 1) v') := hide (by
              refine ⟨⟨gg2, c2, ex2, by rw [← agedR_set (unhide HX), unhide HAG]; exact hd⟩, ?_, ((unhide HI).only.trans (Only.of_below (unhide HWB))).next ((unhide HO').next2 ho9) (fun q hq => ?_), fun e => absurd e (by rw [oversR_is (unhide HX) (unhide HOV)]; simp)⟩
              · rw [oversR_is (unhide HX) (unhide HOV), List.length_append, List.length_singleton, List.map_append]
                exact own_only (unhide HV') ho9 (fun q hq e => tag_ne (unhide HV') (unhide HKW).obj (by decide) (e ▸ hq))
              · rcases hq with h1 | h1
                · exact .inr ((unhide HOW).lt q h1).1
                · exact .inl h1)
            clear hd ho9 HKW hk'
            go_wp2_with fail
            exact ⟨⟨k + 1, by omega, by simp, HN9⟩, by simp [intOf]; omega⟩
          · skip
            have hov : overR x = false := by simp [overR, ho]; omega
            have hag : ageR x = { x with opn := true, silent := x.silent + 1, locked := x.locked - 1 } := by unfold ageR; rw [hov]; simp [ho]; omega
            have HAG := hide hag
            have HOV := hide hov
            clear hag hov
            have m4 : ¬ x.locked ≤ 1 := by omega
            have m5 : (1 : Int) < x.locked := by omega
            have m1 : ¬ x.locked - 1 < 0 := by omega
            have m2 : (0 : Int) ≤ x.locked - 1 := by omega
            have m3 : ¬ (0 : Int) > x.locked - 1 := by omega
            rw [ho] at e1
            have hs24 : (x.silent + 1 == 24) = false := by simp; omega
            go_wp2_with fail
            obtain ⟨gg', c', ex', hk'⟩ := (unhide HI).rk
            refine Calls.mono (rset_ok g gg' c' s0 s1 s2 ex' _ _ (hk'.call (by go_grown)) k (by rw [agedR_len, unhide HN]; exact hlt) { x with opn := true, silent := x.silent + 1, locked := x.locked - 1 }) ?_
            rintro r w9 ⟨rfl, ⟨gg2, c2, ex2, hd, -⟩, ho9⟩
            have HN9 : Hid (Rt w w9 g s0 s1 s2 R (k + 1) u3) := hide (by
              have hon : Only (· = g) wr w9 := (Only.of_below (by go_grown)).trans ho9
              refine ⟨⟨gg2, c2, ex2, by rw [← agedR_set (unhide HX), unhide HAG]; exact hd⟩, ?_, (unhide HI).only.trans hon, fun e => (unhide HI).nil (by rw [oversR_no (unhide HX) (unhide HOV)] at e; exact e)⟩
              rw [oversR_no (unhide HX) (unhide HOV)]
              exact own_only (unhide HI).own hon (fun q hq e => tag_ne (unhide HI).own hk'.obj (by decide) (e ▸ hq)))
            clear hd ho9 hk'
            go_wp2_with fail
            exact ⟨⟨k + 1, by omega, by simp, HN9⟩, by simp [intOf]; omega⟩
    · obtain rfl : n = k := by omega
      have kI : ¬ (n : Int) < (n : Int) := by omega
      go_wp2_with fail
      go_ret
      exact ⟨_, rfl, unhide HI⟩
end Go.Proofs.Ythgacmlbmcehmaa
