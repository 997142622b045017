/- A place of a line and a column: At. -/
import Derived.Test.YtdnbhomjfgpcfaaDoorLRd
namespace Go.Proofs.YtdnbhomjfgpcfaaDoor
set_option linter.unusedVariables false
set_option linter.unusedSimpArgs false
open Go.ChangeShapes Go.WideShapes Go.ChangeAt Go.RowKit Go.Joins Go.Deep

def atE (cs : List (List UInt8)) (i j : Int) : Value := if 0 ≤ i ∧ i < ((sts cs).length : Int) ∧ 0 ≤ j then .tuple #[.int .i64 (((sts cs).getD i.toNat 0 : Int) + min j ((endL cs i.toNat : Int) - ((sts cs).getD i.toNat 0 : Int))), .int .i64 0] else .tuple #[.int .i64 0, .int .i64 1]
theorem sts_le {cs : List (List UInt8)} {n : Nat} (h : n ∈ sts cs) : n ≤ cs.length := by
  rcases List.mem_cons.1 h with rfl | h
  · omega
  · have := (stF_ge cs 0 n h).2; omega
theorem end_le (cs : List (List UInt8)) (i : Nat) : endL cs i ≤ cs.length := by
  unfold endL
  split
  · rename_i h
    have h1 : (sts cs)[i + 1]? = some ((sts cs)[i + 1]'h) := List.getElem?_eq_getElem h
    rw [List.getD_eq_getElem?_getD, h1]
    have := sts_le (List.getElem_mem h)
    simp
    omega
  · omega
set_option maxRecDepth 100000 in
set_option maxHeartbeats 4000000 in
theorem at_ok {w : World} {B g : Nat} {vr vs : Value} {cs : List (List UInt8)} (h : Ix w B g vr vs cs) (i j : Int) (hl : cs.length ≤ 1099511627776) (hj : j ≤ 9223372036854775807) : Calls Tryd.prog 18 #[.pointer (some ⟨g, 0, none⟩), .int .i64 i, .int .i64 j] w fun r w' => r = .returned (atE cs i j) ∧ Below w.heap.size w w' := by
  obtain ⟨ar, cr, as_, c_, e1, e2, q0, q1⟩ := h.two
  have KM := hide (made_ok g w as_ _ c_ q1 (sts_pos cs))
  have KL := hide (isLine_ok g i w as_ _ c_ q1)
  by_cases hi : 0 ≤ i ∧ i < ((sts cs).length : Int)
  · by_cases hj0 : 0 ≤ j
    · obtain ⟨k, rfl⟩ : ∃ k : Nat, i = (k : Int) := ⟨i.toNat, by omega⟩
      have hk : k < (sts cs).length := by omega
      obtain ⟨f, hf⟩ : ∃ f, (sts cs)[k]? = some f := ⟨_, List.getElem?_eq_getElem hk⟩
      have hfl := sts_le (List.mem_of_getElem? hf)
      have hel := end_le cs k
      have HE := hide (fun q : Nat => (end_ok (h.call (Go.Joins.below_draws w.heap.size w q)) hk hl).mono (fun _ _ x => And.intro x.1 x.2.symm))
      obtain ⟨gs, c2, e3, hc, _, hcc, _⟩ := own_rd h.s (u := .int .i64 (f : Int)) (i := k) (by simp [nsv, hf])
      rw [e2] at e3
      injection e3 with e3 _ e4
      subst e3 e4
      have hv : atE cs (k : Int) j = .tuple #[.int .i64 ((f : Int) + min j ((endL cs k : Int) - (f : Int))), .int .i64 0] := by
        unfold atE
        rw [if_pos ⟨hi.1, hi.2, hj0⟩, Int.toNat_natCast, List.getD_eq_getElem?_getD, hf]
        rfl
      rw [hv]
      rw [show decide (0 ≤ (k : Int) ∧ (k : Int) < ((sts cs).length : Int)) = true by simp; omega] at KL
      obtain ⟨e, he⟩ : ∃ e, endL cs k = e := ⟨_, rfl⟩
      rw [he] at HE hel ⊢
      obtain ⟨m, hm⟩ : ∃ z, (sts cs).length = z := ⟨_, rfl⟩
      rw [hm] at q1 hk hcc hi
      have hlt : (k : Int) < (m : Int) := by omega
      have i0 : (0 : Int) ≤ (k : Int) := by omega
      have hj1 : ¬ j < 0 := by omega
      obtain ⟨z, hz⟩ : ∃ z : Int, min j ((e : Int) - (f : Int)) = z := ⟨_, rfl⟩
      have hzb : -1099511627776 ≤ z ∧ z ≤ 1099511627776 := by omega
      have HZ := hide hz
      rw [hz]
      clear hv h e1 e2 hf hi hm he
      go_enter Tryd.func18, Tryd.ntmps18
      go_wp2_with fail
      refine Calls.mono (unhide KM) ?_
      rintro r w1 ⟨rfl, rfl⟩
      go_wp2_with fail
      refine Calls.mono (unhide KL) ?_
      rintro r w1 ⟨rfl, rfl⟩
      go_wp2_with fail
      go_quiet ((go_at_call 48; exact Calls.quiet_of_same (unhide HE _)))
      have HB := hide (Go.Joins.below_draws w.heap.size w nq)
      go_wp2_with fail
      go_ret2
      exact ⟨rfl, unhide HB⟩
    · have hv : atE cs i j = .tuple #[.int .i64 0, .int .i64 1] := by unfold atE; rw [if_neg (fun x => hj0 x.2.2)]
      rw [hv]
      rw [show decide (0 ≤ i ∧ i < ((sts cs).length : Int)) = true by simp; omega] at KL
      have hj1 : j < 0 := by omega
      clear hv h e1 e2 q0 q1 hi
      go_enter Tryd.func18, Tryd.ntmps18
      go_wp2_with fail
      refine Calls.mono (unhide KM) ?_
      rintro r w1 ⟨rfl, rfl⟩
      go_wp2_with fail
      refine Calls.mono (unhide KL) ?_
      rintro r w1 ⟨rfl, rfl⟩
      go_wp2_with fail
      go_ret2
      exact ⟨rfl, Below.refl _ _⟩
  · have hv : atE cs i j = .tuple #[.int .i64 0, .int .i64 1] := by unfold atE; rw [if_neg (fun x => hi ⟨x.1, x.2.1⟩)]
    rw [hv]
    rw [show decide (0 ≤ i ∧ i < ((sts cs).length : Int)) = false by simp; omega] at KL
    clear hv h e1 e2 q0 q1 hi
    go_enter Tryd.func18, Tryd.ntmps18
    go_wp2_with fail
    refine Calls.mono (unhide KM) ?_
    rintro r w1 ⟨rfl, rfl⟩
    go_wp2_with fail
    refine Calls.mono (unhide KL) ?_
    rintro r w1 ⟨rfl, rfl⟩
    go_wp2_with fail
    go_ret2
    exact ⟨rfl, Below.refl _ _⟩
end Go.Proofs.YtdnbhomjfgpcfaaDoor
