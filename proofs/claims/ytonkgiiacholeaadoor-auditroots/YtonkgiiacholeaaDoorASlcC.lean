/- A list of entries, copied; what is left of one from a place on. -/
import Derived.Test.YtonkgiiacholeaaDoorARDg
import Derived.Test.YtonkgiiacholeaaDoorAOpn
namespace Go.Proofs.YtonkgiiacholeaaDoor
set_option linter.unusedVariables false
set_option linter.unusedSimpArgs false
open Go.ChangeShapes Go.WideShapes Go.ChangeAt Go.RowKit Go.Joins

theorem LL.of_own {w : World} {B : Nat} {v : Value} {P : List (Value × List Nat)} (ho : w.ownsRow B 22 1 v P.length (P.map (·.1))) (hY : ∀ x ∈ P, Byt w x.1 x.2) : LL w v P := by
  obtain ⟨_, ⟨he, hz⟩ | ⟨g, c, cur, he, hg, hh, h1, h2, h3, h4⟩⟩ := id ho
  · obtain rfl := List.length_eq_zero_iff.1 hz
    exact ⟨none, 0, he, ⟨Nat.le_refl _, Nat.zero_le _⟩, fun i u l hi => by simp at hi⟩
  · exact ⟨some ⟨g, 0, none⟩, c, he, ⟨h1, h2⟩, fun i u l hi => ⟨⟨_, rfl, ho.cells (g := g) (by rw [he]; rfl) i u (by rw [List.getElem?_map, hi]; rfl)⟩, hY _ (List.mem_of_getElem? hi)⟩⟩
set_option maxHeartbeats 1000000 in
theorem clone_lists (a : Option Addr) (n cap : Nat) (P : List (Value × List Nat)) (w : World) (hn : P.length = n) (hv : LL w (.slice a n cap) P) (hc0 : a = none → cap = 0) (hl : n ≤ 1000) :
    Calls Tryd.prog 23 #[.slice a n cap] w fun e w' => ∃ v', e = .returned v' ∧ w'.ownsRow w.heap.size 22 1 v' n (P.map (·.1)) ∧ Below w.heap.size w w' := by
  obtain ⟨i0, hi, hz0, hz1, hz2⟩ := info_parts info22'
  have hY := hv.each
  obtain ⟨a', cap', he, ⟨h1, h2⟩, h3⟩ := id hv
  obtain ⟨rfl, -, rfl⟩ : a = a' ∧ n = P.length ∧ cap = cap' := by simpa using he
  cases a with
  | none =>
    have h0 : P = [] := by
      cases P with
      | nil => rfl
      | cons x P =>
        obtain ⟨⟨b, hb, _⟩, _⟩ := h3 0 x.1 x.2 rfl
        cases hb
    subst h0
    obtain rfl := hc0 rfl
    subst hn
    have hq := fun W => Go.run_eql_slice_nil (P := Tryd.prog) W 35 22 none 0 0 Tryd.underlying35
    clear hv hY he h1 h2 h3 hc0
    simp only [List.length_nil]
    go_enter Tryd.func23, Tryd.ntmps23
    go_wp2
    go_ret
    exact ⟨_, rfl, World.ownsRow_nil w _ 22 1, Below.refl _ _⟩
  | some a =>
    have hq := fun W => Go.run_eql_slice_nil (P := Tryd.prog) W 35 22 (some a) n cap Tryd.underlying35
    have hB : Below w.heap.size w (w.alloc (.cells #[] 22)) := (Below.refl _ _).alloc (Nat.le_refl _) _
    have HN := hide h3
    have HL := hide hn
    have H1 := hide (fun u (hu : u ∈ P.map (·.1)) => (show u.oneCell' = true from by
      obtain ⟨x, hx, rfl⟩ := List.mem_map.1 hu
      exact byt_one (hY x hx)))
    clear h3 hn hv hY he
    have hown : (w.alloc (.cells #[] 22)).ownsRow w.heap.size 22 1 (.slice (some ⟨w.heap.size, 0, none⟩) 0 0) 0 [] := World.ownsRow_made w #[] 0 (Nat.le_refl _) (Nat.zero_le _) rfl
    go_enter Tryd.func23, Tryd.ntmps23
    go_wp2_with (at_builtin; refine wpList_append_own _ rfl _ _ 35 rfl w.heap.size 22 i0 (.slice none 0 0) 1 24 Tryd.underlying35 hi hz0 hz1 hz2 rfl (by decide) _ _ _ rfl hown a n cap (P.map (·.1)) rfl ?c0 ?c1 ?c2 ?c3 ?c4 ?c5 ?_)
    case c0 => rw [List.length_map, unhide HL]; omega
    case c1 =>
      intro j u hj
      rw [List.getElem?_map] at hj
      obtain ⟨x, hx, rfl⟩ := Option.map_eq_some_iff.1 hj
      obtain ⟨⟨b, hb, hcell⟩, _⟩ := unhide HN j x.1 x.2 hx
      obtain rfl := Option.some.inj hb
      exact cell_keep hB (lt_of_cell hcell) hcell
    case c2 => exact unhide H1
    case c3 => unfold maxLen; omega
    case c4 => omega
    case c5 => simp
    intro v' w2 hown' hgrow' _
    go_wp2
    go_ret
    refine ⟨_, rfl, ?_, ?_⟩
    · simpa using hown'
    · exact hB.grown hgrow' hB.size (fun k hk => by simp [Value.ownBlock] at hk; omega)
end Go.Proofs.YtonkgiiacholeaaDoor

namespace Go.Proofs.YtonkgiiacholeaaDoor
set_option linter.unusedVariables false
set_option linter.unusedSimpArgs false
open Go.ChangeShapes Go.WideShapes Go.ChangeAt Go.RowKit Go.Joins Go.Deep

theorem z22 : (Tryd.prog.info? 22).map (·.size) = some 1 := by kernel_rfl
theorem slice_from (a : Option Addr) (n c j : Nat) (w : World) (hj : j ≤ n) (hn : n ≤ c) :
    (Instr.sliceAt 35 (.slice a n c) (some (.int .i64 (j : Int))) none none).run Tryd.prog w = .ok (.slice (if c = j then a else a.map (·.add j)) (n - j) (c - j)) w := by
  have e1 : ((0 : Int) ≤ (n : Int) ∧ (n : Int) ≤ (c : Int)) := by omega
  have e3 : ((0 : Int) ≤ (j : Int) ∧ (j : Int) ≤ (n : Int)) := by omega
  simp [Instr.sliceAt, run_underlying Tryd.underlying35, Instr.slice, Instr.sliceBounds, Instr.sliceBound, asIntOf, e1, e1.1, e1.2, e3, e3.1, e3.2, hj, hn, run_size z22]
theorem wpList_slice1 {P : Program} {ops : Array Oper} {rest : List Oper} {o : Oper} {a : Act} {w : World} {Q : Exit → Act → World → Prop} (hgd : o.guard = none) (t : TypeId) (x lo : Operand) (ho : o.op = .slice t x (some lo) none none)
    (v vl : Value) (hx : a.eval x = v) (hlo : a.eval lo = vl) (r : Value) (hrun : (Instr.sliceAt t v (some vl) none none).run P w = .ok r w) (h : wpList P ops Q rest (a.put o.dst r) w) : wpList P ops Q (o :: rest) a w := by
  refine wpList_plain hgd fun K hK => ?_
  unfold Oper.wp execOp
  simp only [ho, hx, hlo, Option.map_some, Option.map_none, Sem.run_bind, Sem.run_pure, Result.andThen_ok, hrun]
  exact hK _ _ h
theorem LL.from_ {w : World} {a : Option Addr} {n c j : Nat} {P : List (Value × List Nat)} (h : LL w (.slice a n c) P) (hj : j ≤ n) : LL w (.slice (if c = j then a else a.map (·.add j)) (n - j) (c - j)) (P.drop j) := by
  by_cases hlt : j < n
  · obtain ⟨ad, rfl⟩ := h.addr (by omega)
    have hd := h.drop hlt
    have hc : ¬ c = j := by
      obtain ⟨a', c', e1, e2, _⟩ := h
      obtain ⟨-, hp, rfl⟩ : some ad = a' ∧ n = P.length ∧ c = c' := by simpa using e1
      have := e2.1
      omega
    rw [if_neg hc]
    exact hd
  · obtain ⟨a', c', e1, e2, _⟩ := id h
    obtain ⟨rfl, hP, rfl⟩ : a = a' ∧ n = P.length ∧ c = c' := by simpa using e1
    have h0 : P.drop j = [] := List.drop_eq_nil_iff.2 (by omega)
    rw [h0, show n - j = 0 by omega]
    exact ⟨_, c - j, rfl, ⟨Nat.zero_le _, by have := e2.2; omega⟩, fun i u l hi => by simp at hi⟩
theorem open_nil {H : Type} {enc : TypeId × Value → H} {W : World} {base : Nat} {spare : Nat → Bool} {held : Bool} {n c : Nat} {d : DataW H} {p : List MemPlace}
    (h : DataW.Trod enc Tryd.prog W base spare held 35 (.slice none n c) d p) : c = 0 := by
  obtain ⟨fuel, hf⟩ := h
  rcases open_slice Tryd.underlying35 hf with h0 | ⟨a, len, cap, m, n', D, Pl, hcs, hb, hl, hm, hmm, hdd, hx⟩
  · have hcs := h0.1
    simp [Value.cells] at hcs
    exact hcs.2
  · simp [Value.cells] at hcs
end Go.Proofs.YtonkgiiacholeaaDoor
