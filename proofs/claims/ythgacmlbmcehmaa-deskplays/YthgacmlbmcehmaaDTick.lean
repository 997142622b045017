/- A tick of a whole desk (Tick). -/
import Derived.Test.YthgacmlbmcehmaaDTk
namespace Go.Proofs.Ythgacmlbmcehmaa
set_option linter.unusedVariables false
set_option linter.unusedSimpArgs false
open Go.ChangeShapes Go.WideShapes Go.ChangeAt Go.RowKit Go.Joins Go.Deep

/-- whose sessions the tick ends, of the first k guests -/
def oversL (D : List Gst) (k : Nat) : List Int := ((List.range k).filter (fun j => (D[j]?.map overG).getD false)).map (fun j : Nat => (j : Int))
theorem oversL_le (D : List Gst) (k : Nat) : (oversL D k).length ≤ k := by
  unfold oversL
  rw [List.length_map]
  have h := List.length_filter_le (fun j => (D[j]?.map overG).getD false) (List.range k)
  rw [List.length_range] at h
  exact h
theorem oversL_no {D : List Gst} {k : Nat} {x : Gst} (hx : D[k]? = some x) (ho : overG x = false) : oversL D (k + 1) = oversL D k := by
  unfold oversL
  rw [List.range_succ, List.filter_append, List.map_append]
  simp [hx, ho]
theorem oversL_is {D : List Gst} {k : Nat} {x : Gst} (hx : D[k]? = some x) (ho : overG x = true) : oversL D (k + 1) = oversL D k ++ [(k : Int)] := by
  unfold oversL
  rw [List.range_succ, List.filter_append, List.map_append]
  simp [hx, ho]
/-- the guests, of whom k are older -/
def agedL (D : List Gst) (k : Nat) : List Gst := (D.take k).map ageG ++ D.drop k
theorem agedL_len (D : List Gst) (k : Nat) : (agedL D k).length = D.length := by simp [agedL]; omega
theorem agedL_get {D : List Gst} {k : Nat} {x : Gst} (hx : D[k]? = some x) : (agedL D k)[k]? = some x := by
  have hk := (List.getElem?_eq_some_iff.1 hx).1
  unfold agedL
  rw [List.getElem?_append_right (by simp; omega), List.getElem?_drop]
  simp only [List.length_map, List.length_take]
  rw [show k + (k - min k D.length) = k by omega]
  exact hx
theorem agedL_set {D : List Gst} {k : Nat} {x : Gst} (hx : D[k]? = some x) : (agedL D k).set k (ageG x) = agedL D (k + 1) := by
  have hk := (List.getElem?_eq_some_iff.1 hx).1
  have e : D.drop k = x :: D.drop (k + 1) := by
    rw [List.drop_eq_getElem_cons hk]
    have := (List.getElem?_eq_some_iff.1 hx).2
    rw [this]
  unfold agedL
  rw [e, List.set_append_right _ _ (by simp; omega)]
  simp only [List.length_map, List.length_take]
  rw [show k - min k D.length = 0 by omega, List.set_cons_zero, List.take_add_one, hx, List.map_append]
  simp
/-- a tick that is under way -/
structure Tk (w wr : World) (g gg c : Nat) (sv : Value) (ex : List Value) (D : List Gst) (k : Nat) (v : Value) (L : List Int) : Prop where
  dk : Dk wr g gg c sv ex (agedL D k)
  own : wr.ownsRow w.heap.size 3 1 v L.length (L.map (Value.int IntKind.i64))
  only : Only (· = gg) w wr
  nil : L = [] → v = .slice none 0 0
theorem Tk.start {w : World} {g gg c : Nat} {sv : Value} {ex : List Value} {D : List Gst} (h : Dk w g gg c sv ex D) : Tk w w g gg c sv ex D 0 (.slice none 0 0) [] :=
  ⟨by simpa [agedL] using h, World.ownsRow_nil _ _ _ _, Only.refl _ _, fun _ => rfl⟩
theorem Tk.age {w wr w' : World} {g gg c : Nat} {sv : Value} {ex : List Value} {D : List Gst} {k : Nat} {v : Value} {L : List Int} {x : Gst} (h : Tk w wr g gg c sv ex D k v L) (hx : D[k]? = some x)
    (hd : Dk w' g gg c sv ex ((agedL D k).set k (ageG x))) (ho : Only (· = gg) wr w') : Tk w w' g gg c sv ex D (k + 1) v L :=
  ⟨by rw [← agedL_set hx]; exact hd, own_only h.own ho (fun q hq e => tag_ne h.own h.dk.row (by decide) (e ▸ hq)), h.only.trans ho, h.nil⟩
theorem Tk.over {w wr w' : World} {g gg c : Nat} {sv : Value} {ex : List Value} {D : List Gst} {k : Nat} {v v' : Value} {L : List Int} (h : Tk w wr g gg c sv ex D k v L) (i : Int) (ho : w'.ownsRow w.heap.size 3 1 v' (L.length + 1) (L.map (Value.int IntKind.i64) ++ [.int .i64 i]))
    (hn : Only (fun q => v.ownBlock = some q) wr w') : Tk w w' g gg c sv ex D k v' (L ++ [i]) := by
  have e1 : v.ownBlock ≠ some g := tag_ne h.own h.dk.obj (by decide)
  have e2 : v.ownBlock ≠ some gg := tag_ne h.own h.dk.row (by decide)
  refine ⟨⟨h.dk.obj.only hn e1, h.dk.row.only hn e2, h.dk.pos, h.dk.le⟩, ?_, h.only.next hn (fun q hq => .inr (h.own.lt q hq).1), fun e => absurd e (by simp)⟩
  rw [List.length_append, List.length_singleton, List.map_append]
  exact ho
theorem wpList_append_int {ops : Array Oper} {rest : List Oper} {o : Oper} {a : Act} {Q : Exit → Act → World → Prop} {W : World} (hgd : o.guard = none) (s x : Operand)
    (ho : o.op = .call { callee := .builtin .append, args := #[s, x], argTypes := #[41, 41] }) (B : Nat) (v : Value) (n : Nat) (xs : List Value) (u : Int)
    (hs : a.eval s = v) (hv : W.ownsRow B 3 1 v n xs) (hn : n ≤ 1000) (hB : B ≤ W.heap.size) (hx : a.eval x = .slice (some ⟨W.heap.size, 0, none⟩) 1 1)
    (h : ∀ v' w', w'.ownsRow B 3 1 v' (n + 1) (xs ++ [.int .i64 u]) → Only (fun q => v.ownBlock = some q) W w' → wpList Try.prog ops Q rest (a.put o.dst v') w') : wpList Try.prog ops Q (o :: rest) a (W.alloc (.cells #[.int .i64 u] 3)) :=
  wpList_plain hgd fun _ hK => wp_append_int s x ho B v n xs u hs hv hn hB hx (fun v' w' h1 h2 => hK _ _ (h v' w' h1 h2))
set_option maxRecDepth 100000 in
set_option maxHeartbeats 4000000 in
theorem tick_ok (g gg c : Nat) (sv : Value) (ex : List Value) (D : List Gst) (w : World) (h : Dk w g gg c sv ex D) (hk : ∀ x ∈ D, Gok x) :
    Calls Try.prog 33 #[.pointer (some ⟨g, 0, none⟩)] w fun r w' => ∃ v, r = .returned v ∧ Tk w w' g gg c sv ex D D.length v (oversL D D.length) := by
  have c0 : w.cell? ⟨g, 0, none⟩ = some (.slice (some ⟨gg, 0, none⟩) D.length c) := h.obj.cell 0
  have HK := hide hk
  have HT := hide (Tk.start h)
  have HP := hide h.pos
  have n8 := h.le
  obtain ⟨n, hN⟩ : ∃ n, D.length = n := ⟨_, rfl⟩
  rw [hN] at c0 n8 ⊢
  have HN := hide hN
  have n8I : (n : Int) ≤ 8 := by omega
  clear h hk hN
  go_enter Try.func33, Try.ntmps33
  go_wp2_with fail
  clear c0
  go_loopw [3, 12] (fun a i wr => ∃ k : Nat, k ≤ n ∧ i = .int .i64 (k : Int) ∧ Hid (Tk w wr g gg c sv ex D k a (oversL D k))) (fun _ i _ => ((n : Int) - intOf i).toNat)
  case atStart => exact ⟨0, by omega, by simp, HT⟩
  case round =>
    clear HT
    obtain ⟨k, hkn, rfl, HI⟩ := hrel
    by_cases hlt : k < n
    · have kI : (k : Int) < (n : Int) := by omega
      obtain ⟨x, hx⟩ : ∃ x, D[k]? = some x := ⟨_, List.getElem?_eq_getElem (by have := unhide HN; omega)⟩
      have c0 : wr.cell? ⟨g, 0, none⟩ = some (.slice (some ⟨gg, 0, none⟩) n c) := by
        have := (unhide HI).dk.obj.cell 0
        rw [agedL_len, unhide HN] at this
        exact this
      have HA := hide (age_ok g gg c sv ex (agedL D k) wr (unhide HI).dk k x (agedL_get hx) (unhide HK x (List.mem_of_getElem? hx)))
      have HX := hide hx
      clear hx
      go_wp2_with fail
      refine Calls.mono (unhide HA) ?_
      rintro r w2 ⟨rfl, hd, ho⟩
      have HT2 := hide ((unhide HI).age (unhide HX) hd ho)
      clear hd ho HI HA c0
      cases hov : overG x with
      | false =>
        have HT3 : Hid (Tk w w2 g gg c sv ex D (k + 1) u3 (oversL D (k + 1))) := hide (by rw [oversL_no (unhide HX) hov]; exact unhide HT2)
        clear hov HT2 HX
        go_wp2_with fail
        exact ⟨⟨k + 1, by omega, by simp, HT3⟩, by simp [intOf]; omega⟩
      | true =>
        have hl := oversL_le D k
        have HSZ := hide (unhide HT2).only.size
        have HW := hide (unhide HT2).own
        have HOV := hide hov
        clear hov
        go_wp2_with (refine wpList_append_int rfl _ _ rfl w.heap.size u3 (oversL D k).length ((oversL D k).map (Value.int IntKind.i64)) (k : Int) rfl (unhide HW) (by omega) (unhide HSZ) rfl (fun v' w' hv' ho' => ?_); have HV' := hide hv'; have HO' := hide ho'; clear hv' ho')
        have HT3 : Hid (Tk w w' g gg c sv ex D (k + 1) v' (oversL D (k + 1))) := hide (by rw [oversL_is (unhide HX) (unhide HOV)]; exact (unhide HT2).over _ (unhide HV') (unhide HO'))
        exact ⟨⟨k + 1, by omega, by simp, HT3⟩, by simp [intOf]; omega⟩
    · obtain rfl : k = n := by omega
      have kI : ¬ (k : Int) < (k : Int) := by omega
      go_wp2_with fail
      go_ret
      exact ⟨_, rfl, unhide HI⟩
end Go.Proofs.Ythgacmlbmcehmaa
