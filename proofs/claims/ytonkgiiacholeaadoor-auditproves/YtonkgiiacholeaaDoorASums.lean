/- Digests that come in; which side each digest of a proof stands at; the reference's Proves. -/
import Derived.Test.YtonkgiiacholeaaDoorAOpn
import Derived.Test.YtonkgiiacholeaaDoorAAw
import Derived.Deep.MidRow
namespace Go.Proofs.YtonkgiiacholeaaDoor
set_option linter.unusedVariables false
set_option maxRecDepth 100000
set_option linter.unusedSimpArgs false
open Go.ChangeShapes Go.WideShapes Go.ChangeAt Go.RowKit Go.Joins Go.Deep

theorem cells43 : Tryd.prog.cellsOf 43 = 32 := by kernel_rfl
theorem u8_of {H : Type} {enc : TypeId × Value → H} {W : World} {base fuel : Nat} {spare : Nat → Bool} {held : Bool} {cs : List Value} {x : DataW H × List MemPlace}
    (hf : DataW.trod enc Tryd.prog W base spare held fuel 5 cs = some x) : ∃ z : Nat, cs = [.int .u8 (z : Int)] ∧ z < 256 := by
  obtain ⟨n, h, _, hw⟩ := DataW.trod_int Tryd.underlying5 hf
  have := bounds_u8 hw
  refine ⟨n.toNat, ?_, by omega⟩
  rw [h, Int.toNat_of_nonneg (by omega)]
theorem sum_of {H : Type} {enc : TypeId × Value → H} {W : World} {base fuel : Nat} {spare : Nat → Bool} {held : Bool} {cs : List Value} {x : DataW H × List MemPlace}
    (hf : DataW.trod enc Tryd.prog W base spare held fuel 43 cs = some x) : ∃ R : List Nat, cs = bv R ∧ R.length = 32 ∧ U8 R := by
  cases fuel with
  | zero => simp [DataW.trod] at hf
  | succ fuel =>
    have h := hf
    simp only [DataW.trod, Tryd.underlying43, cells5] at h
    split at h
    · rename_i hl
      have hlen : cs.length = 32 := by simpa [cells43] using hl
      obtain ⟨xs, hm, hx⟩ := Option.map_eq_some_iff.1 h
      subst hx
      have each : ∀ i, i < 32 → ∃ z : Nat, cs[i]? = some (.int .u8 (z : Int)) ∧ z < 256 := by
        intro i hi
        obtain ⟨f2, d2, q2, k2, t2⟩ := Lib.array_elem Tryd.underlying43 hf i hi
        rw [cells5, Nat.mul_one] at t2
        obtain ⟨z, hz, h256⟩ := u8_of t2
        refine ⟨z, ?_, h256⟩
        have := congrArg (fun l => l[0]?) hz
        simpa using this
      obtain ⟨R, hR, hp⟩ := list_of each
      refine ⟨R, ?_, hR, fun y hy => ?_⟩
      · apply List.ext_getElem?
        intro i
        by_cases hi : i < 32
        · have hr : R[i]? = some R[i] := List.getElem?_eq_getElem (by omega)
          rw [(hp i _ hr).1]
          simp [bv, hr]
        · rw [List.getElem?_eq_none (by omega), List.getElem?_eq_none (by rw [bv_len]; omega)]
      · obtain ⟨i, hi⟩ := List.getElem?_of_mem hy
        exact (hp i y hi).2
    · cases h
theorem open_sum {H : Type} {enc : TypeId × Value → H} {W : World} {b0 base : Nat} {spare : Nat → Bool} {held : Bool} {v : Value} {d : DataW H} {p : List MemPlace}
    (hv : Value.okWide Tryd.prog W .any b0 43 v) (h : DataW.Trod enc Tryd.prog W base spare held 43 v d p) : ∃ R : List Nat, v = .agg (bv R).toArray ∧ R.length = 32 ∧ U8 R := by
  obtain ⟨fuel, hf⟩ := h
  obtain ⟨R, hc, hl, h8⟩ := sum_of hf
  refine ⟨R, ?_, hl, h8⟩
  have hs : v.cells.size = 32 := by
    have := congrArg List.length hc
    rw [bv_len, hl] at this
    simpa using this
  have hc' : v.cells = (bv R).toArray := by
    rw [← hc]
  cases v <;> simp [Value.cells] at hs hc' ⊢
  exact hc'
theorem okWide_spot {P : Program} {w : World} {r : Reach} {b0 n c : Nat} {t e : TypeId} {a : Addr} (ht : P.underlying t = some (.slice e)) (h : Value.okWide P w r b0 t (.slice (some a) n c)) : a.spot = none := by
  simp only [Value.okWide, ht, Cell.okWide, Cell.ok, World.has] at h
  exact h.2.2.2.1
theorem open_sums {H : Type} {enc : TypeId × Value → H} {W : World} {b0 base : Nat} {spare : Nat → Bool} {held : Bool} {v : Value} {d : DataW H} {p : List MemPlace}
    (hv : Value.okWide Tryd.prog W .any b0 54 v) (h : DataW.Trod enc Tryd.prog W base spare held 54 v d p) :
    ∃ (P : List (List Nat)) (a : Option Addr) (c : Nat), v = .slice a P.length c ∧ (P.length ≤ 1000000 → PS W v P) := by
  obtain ⟨a, n, c, rfl⟩ := okWide_slice Tryd.underlying54 hv
  obtain ⟨fuel, hf⟩ := h
  rcases open_slice Tryd.underlying54 hf with h0 | ⟨a, len, cap, m, n', D, Pl, hcs, hb, hl, hm, hmm, hdd, hx⟩
  · have hcs := h0.1
    simp [Value.cells] at hcs
    obtain ⟨rfl, rfl, rfl⟩ := hcs
    exact ⟨[], none, 0, rfl, fun _ => ⟨none, 0, rfl, Nat.le_refl _, Nat.zero_le _, (fun s hs => by cases hs), .inl rfl⟩⟩
  · simp [Value.cells] at hcs
    obtain ⟨rfl, rfl, rfl⟩ := hcs
    have hsp := okWide_spot Tryd.underlying54 hv
    have hlm : n ≤ m := by rw [hmm]; split <;> omega
    obtain ⟨g, o, s⟩ := a
    simp only at hsp
    subst hsp
    have each : ∀ i, i < n → ∃ R : List Nat, (R.length = 32 ∧ U8 R) ∧ W.rangeAt g (o + i * 32) (bv R) := by
      intro i hi
      obtain ⟨cs', h1, h2⟩ := hx i (by omega)
      rw [cells43] at h1
      obtain ⟨_, hlen, hcell⟩ := World.cells?_some h1
      obtain ⟨R, hc, hR, h8⟩ := sum_of h2
      refine ⟨R, ⟨hR, h8⟩, fun j u hj => ?_⟩
      have hj32 : j < 32 := by
        have := (List.getElem?_eq_some_iff.1 hj).1
        rw [bv_len, hR] at this
        exact this
      have := hcell j hj32
      rw [hc, hj, add_plain, add_plain] at this
      exact this
    obtain ⟨L, hL, hp⟩ := list_of each
    refine ⟨L, some ⟨g, o, none⟩, c, by rw [hL], fun hb => ⟨some ⟨g, o, none⟩, c, by rw [hL], by rw [hL]; exact hl, hb, fun s hs => ?_, .inr ⟨g, o, rfl, rfl, fun i s hs => ⟨(hp i s hs).1.1, (hp i s hs).1.2, (hp i s hs).2⟩⟩⟩⟩
    obtain ⟨i, hi⟩ := List.getElem?_of_mem hs
    exact (hp i s hi).1
end Go.Proofs.YtonkgiiacholeaaDoor

namespace Go.Proofs.YtonkgiiacholeaaDoor
set_option linter.unusedVariables false
set_option linter.unusedSimpArgs false
open Go.ChangeShapes Go.WideShapes Go.ChangeAt Go.RowKit Go.Joins

def sidesL (i n : Nat) : List Bool :=
  if h : 2 ≤ n then if i < half n then sidesL i (half n) ++ [false] else sidesL (i - half n) (n - half n) ++ [true] else []
termination_by n
decreasing_by
  all_goals (have h1 := half_lt h; have h2 := half_pos n; omega)
theorem sidesL_one {i n : Nat} (h : ¬ 2 ≤ n) : sidesL i n = [] := by rw [sidesL, dif_neg h]
theorem sidesL_low {i n : Nat} (h : 2 ≤ n) (hi : i < half n) : sidesL i n = sidesL i (half n) ++ [false] := by rw [sidesL, dif_pos h, if_pos hi]
theorem sidesL_high {i n : Nat} (h : 2 ≤ n) (hi : ¬ i < half n) : sidesL i n = sidesL (i - half n) (n - half n) ++ [true] := by rw [sidesL, dif_pos h, if_neg hi]
theorem sides_bl : ∀ (n i : Nat), (sidesL i n).length ≤ bl (n - 1) := by
  intro n
  induction n using Nat.strongRecOn with
  | _ n ih =>
  intro i
  by_cases h2 : 2 ≤ n
  · have hh := half_lt h2
    have hp := half_pos n
    have e1 := bl_pred_half h2
    have e2 := bl_pred_rest h2
    by_cases hi : i < half n
    · rw [sidesL_low h2 hi, List.length_append, List.length_singleton]
      have := ih (half n) (by omega) i
      omega
    · rw [sidesL_high h2 hi, List.length_append, List.length_singleton]
      have := ih (n - half n) (by omega) (i - half n)
      omega
  · rw [sidesL_one h2]; exact Nat.zero_le _
theorem sides_40 (n i : Nat) (hn : n ≤ 1099511627776) : (sidesL i n).length ≤ 40 := by
  refine Nat.le_trans (sides_bl n i) (bl_le.2 ?_)
  have : (2 : Nat) ^ 40 = 1099511627776 := by decide
  omega
/-- one step up -/
def upS (s : List Nat) (b : Bool) (p : List Nat) : List Nat := if b then knotL p s else knotL s p
theorem upS_len (s : List Nat) (b : Bool) (p : List Nat) : (upS s b p).length = 32 := by unfold upS; split <;> exact knotL_len _ _
theorem upS_8 (s : List Nat) (b : Bool) (p : List Nat) : U8 (upS s b p) := by unfold upS; split <;> exact knotL_8 _ _
/-- where digests lead, from the bottom up -/
def upL (s : List Nat) (S : List Bool) (P : List (List Nat)) : List Nat := (S.zip P).foldl (fun s x => upS s x.1 x.2) s
theorem upL_snoc {s : List Nat} {S : List Bool} {P : List (List Nat)} {b : Bool} {y : List Nat} (h : S.length = P.length) : upL s (S ++ [b]) (P ++ [y]) = upS (upL s S P) b y := by
  unfold upL
  rw [List.zip_append h, List.foldl_append]
  rfl
theorem upL_ok {s : List Nat} (hs : s.length = 32) (h8 : U8 s) : ∀ (S : List Bool) (P : List (List Nat)), (upL s S P).length = 32 ∧ U8 (upL s S P) := by
  intro S
  induction S generalizing s with
  | nil => intro P; exact ⟨hs, h8⟩
  | cons b S ih =>
    intro P
    cases P with
    | nil => exact ⟨hs, h8⟩
    | cons p P => exact ih (upS_len s b p) (upS_8 s b p) P
theorem upL_take {s : List Nat} {S : List Bool} {P : List (List Nat)} {k : Nat} {b : Bool} {p : List Nat} (hb : S[k]? = some b) (hp : P[k]? = some p) : upL s (S.take (k + 1)) (P.take (k + 1)) = upS (upL s (S.take k) (P.take k)) b p := by
  have h1 := (List.getElem?_eq_some_iff.1 hb).1
  have h2 := (List.getElem?_eq_some_iff.1 hp).1
  rw [List.take_add_one, List.take_add_one, hb, hp]
  exact upL_snoc (by rw [List.length_take, List.length_take]; omega)
theorem lead_sides (s : List Nat) : ∀ (n i : Nat) (P : List (List Nat)), ((leadL s i n P).2 = true ↔ P.length = (sidesL i n).length) ∧ (P.length = (sidesL i n).length → (leadL s i n P).1 = upL s (sidesL i n) P) := by
  intro n
  induction n using Nat.strongRecOn with
  | _ n ih =>
  intro i P
  by_cases h2 : 2 ≤ n
  · have hh := half_lt h2
    have hp := half_pos n
    cases hl : P.getLast? with
    | none =>
      obtain rfl := List.getLast?_eq_none_iff.1 hl
      rw [leadL_none h2]
      have : 0 < (sidesL i n).length := by
        by_cases hi : i < half n
        · rw [sidesL_low h2 hi]; simp
        · rw [sidesL_high h2 hi]; simp
      constructor
      · simp; omega
      · intro h; simp at h; omega
    | some y =>
      have hP : P = P.dropLast ++ [y] := by
        have hne : P ≠ [] := fun e => by subst e; cases hl
        have := List.dropLast_concat_getLast hne
        rw [List.getLast?_eq_some_getLast hne] at hl
        rw [Option.some.inj hl] at this
        exact this.symm
      have hPl : P.length = P.dropLast.length + 1 := by have := congrArg List.length hP; rw [List.length_append, List.length_singleton] at this; exact this
      by_cases hi : i < half n
      · obtain ⟨i1, i2⟩ := ih (half n) hh i P.dropLast
        rw [leadL_low h2 hl hi, sidesL_low h2 hi, List.length_append, List.length_singleton]
        refine ⟨?_, fun h => ?_⟩
        · rw [i1]; omega
        · have h' : P.dropLast.length = (sidesL i (half n)).length := by omega
          conv => rhs; rw [hP]
          rw [upL_snoc h'.symm, ← i2 h']
          rfl
      · obtain ⟨i1, i2⟩ := ih (n - half n) (by omega) (i - half n) P.dropLast
        rw [leadL_high h2 hl hi, sidesL_high h2 hi, List.length_append, List.length_singleton]
        refine ⟨?_, fun h => ?_⟩
        · rw [i1]; omega
        · have h' : P.dropLast.length = (sidesL (i - half n) (n - half n)).length := by omega
          conv => rhs; rw [hP]
          rw [upL_snoc h'.symm, ← i2 h']
          rfl
  · rw [leadL_one h2, sidesL_one h2]
    exact ⟨by cases P <;> simp, fun _ => rfl⟩
theorem provesE_sides (d : List Nat) (i n : Nat) (P : List (List Nat)) (R : List Nat) : provesE d i n P R = if P.length = (sidesL i n).length ∧ upL (leafL d) (sidesL i n) P = R then 0 else 140 := by
  obtain ⟨h1, h2⟩ := lead_sides (leafL d) n i P
  unfold provesE
  by_cases h : P.length = (sidesL i n).length
  · rw [h2 h]
    simp [h1.2 h, h]
  · have : ¬ (leadL (leafL d) i n P).2 = true := fun e => h (h1.1 e)
    simp [this, h]

/-- bools in a slice of one's own -/
def bbv (S : List Bool) : List Value := S.map Value.bool
def Bls (w : World) (B : Nat) (v : Value) (S : List Bool) : Prop := w.ownsRow B 4 1 v S.length (bbv S)
theorem Bls.nil (w : World) (B : Nat) : Bls w B (.slice none 0 0) [] := World.ownsRow_nil w B 4 1
theorem Bls.call {w w' : World} {B : Nat} {v : Value} {L : List Bool} (h : Bls w B v L) (hb : Below w.heap.size w w') : Bls w' B v L :=
  own_only h (Only.of_below (p := fun _ => False) hb) (fun _ _ h => h)
theorem info4 : (Tryd.prog.info? 4).map (fun i => (i.zero, i.size, i.bytes)) = some (some (.bool false), 1, 1) := by kernel_rfl
theorem wpList_append_bool {ops : Array Oper} {rest : List Oper} {o : Oper} {a : Act} {Q : Exit → Act → World → Prop} {W : World} (hgd : o.guard = none) (s x : Operand)
    (ho : o.op = .call { callee := .builtin .append, args := #[s, x], argTypes := #[98, 98] }) (B : Nat) (v : Value) (L : List Bool) (b : Bool)
    (hs : a.eval s = v) (hv : Bls W B v L) (hL : L.length ≤ 1000) (hB : B ≤ W.heap.size) (hx : a.eval x = .slice (some ⟨W.heap.size, 0, none⟩) 1 1)
    (h : ∀ v' w', Bls w' B v' (L ++ [b]) → Below B W w' → wpList Tryd.prog ops Q rest (a.put o.dst v') w') : wpList Tryd.prog ops Q (o :: rest) a (W.alloc (.cells #[.bool b] 4)) := by
  obtain ⟨i4, hi4, hz4, hs4, hb4⟩ := info_parts info4
  have hzz : (Value.bool false).cells.size = 1 := by simp [Value.cells]
  have nw : ∀ k u, ([Value.bool b] : List Value)[k]? = some u → (W.alloc (.cells #[.bool b] 4)).cell? ((⟨W.heap.size, 0, none⟩ : Addr).add k) = some u := by
    intro k u hk
    rw [add_plain, Nat.zero_add, (RowAt.new W 4 [Value.bool b]).cell]
    exact hk
  have hv1 : (W.alloc (.cells #[.bool b] 4)).ownsRow B 4 1 v L.length (bbv L) := World.ownsRow.alloc hv _
  refine wpList_append_lies _ hgd s x 98 ho B 4 i4 (.bool false) 1 1 Tryd.underlying98 hi4 hz4 hs4 hb4 hzz (by decide) v L.length (bbv L) hs hv1 ⟨W.heap.size, 0, none⟩ 1 1 [.bool b] hx rfl nw (fun u hu => by obtain rfl := List.mem_singleton.1 hu; rfl) (by decide) (by unfold maxLen; omega) (by omega) (by rw [size_alloc]; omega) (W.heap.size + 1) (size_alloc _ _) ?_
  intro g cap w' own grow lies lt
  refine h _ w' ?_ ?_
  · unfold Bls bbv
    rw [List.length_append, List.map_append]
    exact own
  · exact ((Below.refl B W).alloc hB _).trans ((grown_only grow).below (by rw [size_alloc]; omega) (fun k hk => (hv1.lt k hk).1))
set_option maxRecDepth 100000 in
set_option maxHeartbeats 8000000 in
theorem rsides_any : ∀ (n i : Nat) (w : World), 1 ≤ n → n ≤ 1099511627776 → i < n →
    Calls Tryd.prog 63 #[.int .i64 (i : Int), .int .i64 (n : Int)] w fun e w' => ∃ v, e = .returned v ∧ Below w.heap.size w w' ∧ Bls w' w.heap.size v (sidesL i n) := by
  intro n
  induction n using Nat.strongRecOn with
  | _ n ih =>
  intro i w h0 hN hi
  by_cases h1 : n = 1
  · subst h1
    rw [sidesL_one (by decide)]
    clear ih hi hN
    go_enter Tryd.func63, Tryd.ntmps63
    go_wp2_with fail
    go_ret
    exact ⟨_, rfl, Below.refl _ _, Bls.nil _ _⟩
  have h2 : 2 ≤ n := by omega
  have hh := half_lt h2
  have hhp := half_pos n
  have HHF := hide (fun w => rhalf_any n w h2 (by omega))
  have n1 : ((n : Int) == 1) = false := beq_eq_false_iff_ne.2 (by omega)
  by_cases hik : i < half n
  · have HI1 := hide (ih (half n) hh i w hhp (by omega) hik)
    rw [sidesL_low h2 hik]
    have hl := sides_40 (half n) i (by omega)
    obtain ⟨S, hS⟩ : ∃ S, sidesL i (half n) = S := ⟨_, rfl⟩
    rw [hS] at HI1 hl ⊢
    obtain ⟨k, hk⟩ : ∃ k, half n = k := ⟨_, rfl⟩
    rw [hk] at HHF HI1 hh hhp hik
    have ik : (i : Int) < (k : Int) := by omega
    clear ih hi h1 h2 hh hhp hik hk hS hN h0
    go_enter Tryd.func63, Tryd.ntmps63
    go_wp2_with fail
    refine Calls.mono (unhide HHF _) ?_
    rintro e w2 ⟨rfl, rfl⟩
    go_wp2_with fail
    refine Calls.mono (unhide HI1) ?_
    rintro e w3 ⟨v, rfl, b3, S3⟩
    have HB3 := hide b3
    have HS3 := hide S3
    clear b3 S3 HI1
    go_wp2_with (refine wpList_append_bool rfl _ _ rfl w.heap.size v S false rfl (unhide HS3) (by omega) (unhide HB3).size rfl (fun v' w' hv' hb' => ?_); have HV' := hide hv'; have HB' := hide hb'; clear hv' hb')
    go_ret
    exact ⟨_, rfl, (unhide HB3).trans (unhide HB'), unhide HV'⟩
  · have HI1 := hide (ih (n - half n) (by omega) (i - half n) w (by omega) (by omega) (by omega))
    rw [sidesL_high h2 hik]
    have hl := sides_40 (n - half n) (i - half n) (by omega)
    obtain ⟨S, hS⟩ : ∃ S, sidesL (i - half n) (n - half n) = S := ⟨_, rfl⟩
    rw [hS] at HI1 hl ⊢
    obtain ⟨k, hk⟩ : ∃ k, half n = k := ⟨_, rfl⟩
    rw [hk] at HHF HI1 hh hhp hik
    have e2 : ((n - k : Nat) : Int) = (n : Int) - (k : Int) := by omega
    have e3 : ((i - k : Nat) : Int) = (i : Int) - (k : Int) := by omega
    rw [e2, e3] at HI1
    have ik : ¬ (i : Int) < (k : Int) := by omega
    have nI : (n : Int) ≤ 1099511627776 := by omega
    have kI : (k : Int) < (n : Int) := by omega
    have k1 : (1 : Int) ≤ (k : Int) := by omega
    have iI : (i : Int) < (n : Int) := by omega
    clear ih hi h1 h2 hh hhp hik hk hS hN h0 e2 e3
    go_enter Tryd.func63, Tryd.ntmps63
    go_wp2_with fail
    refine Calls.mono (unhide HHF _) ?_
    rintro e w2 ⟨rfl, rfl⟩
    go_wp2_with fail
    refine Calls.mono (unhide HI1) ?_
    rintro e w3 ⟨v, rfl, b3, S3⟩
    have HB3 := hide b3
    have HS3 := hide S3
    clear b3 S3 HI1
    go_wp2_with (refine wpList_append_bool rfl _ _ rfl w.heap.size v S true rfl (unhide HS3) (by omega) (unhide HB3).size rfl (fun v' w' hv' hb' => ?_); have HV' := hide hv'; have HB' := hide hb'; clear hv' hb')
    go_ret
    exact ⟨_, rfl, (unhide HB3).trans (unhide HB'), unhide HV'⟩
end Go.Proofs.YtonkgiiacholeaaDoor

namespace Go.Proofs.YtonkgiiacholeaaDoor
set_option linter.unusedVariables false
set_option linter.unusedSimpArgs false
open Go.ChangeShapes Go.WideShapes Go.ChangeAt Go.RowKit Go.Joins

theorem wpList_load_run {P : Program} {ops : Array Oper} {rest : List Oper} {o : Oper} {a : Act} {w : World} {Q : Exit → Act → World → Prop} (hgd : o.guard = none) (ty : TypeId) (x : Operand) (ho : o.op = .load ty x)
    (p : Addr) (hx : a.eval x = .pointer (some p)) (v : Value) (hrun : (loadVar ty p).run P w = .ok v w) (h : wpList P ops Q rest (a.put o.dst v) w) : wpList P ops Q (o :: rest) a w :=
  wpList_plain hgd fun _ hK => by
    unfold Oper.wp execOp
    simp only [ho, hx, Instr.loadAt, Instr.sureAddr, Sem.run_bind, Sem.run_pure, Result.andThen_ok, hrun]
    exact hK _ _ h
theorem Bls.at {w : World} {B g c : Nat} {S : List Bool} {k : Nat} {b : Bool} (h : Bls w B (.slice (some ⟨g, 0, none⟩) S.length c) S) (hb : S[k]? = some b) : w.cell? ⟨g, k, none⟩ = some (.bool b) := by
  have hk : k < S.length := (List.getElem?_eq_some_iff.1 hb).1
  have := World.ownsRow.cellAt h k (by omega)
  rw [this]
  simp [bbv, hb]
/-- where they lie there was room -/
theorem Bls.call' {w : World} {B : Nat} {v : Value} {S : List Bool} (h : Bls w B v S) : ∀ g, v.ownBlock = some g → g < w.heap.size := fun g hg => (World.ownsRow.lt h g hg).2
theorem SS.load {w : World} {g o k : Nat} {L : List (List Nat)} {x : List Nat} {A : Array Value} (h : SS w ⟨g, o, none⟩ L) (hx : L[k]? = some x) (hA : (bv x).toArray = A) : (loadVar 43 ⟨g, o + k * 32, none⟩).run Tryd.prog w = .ok (.agg A) w := by
  obtain ⟨x1, x8, xr⟩ := h.at_ k x hx
  rw [← hA]
  exact run_loadVar_mid _ g (o + k * 32) 43 (bv x) _ xr Tryd.underlying43 rfl (size43 x1)
set_option maxRecDepth 100000 in
set_option maxHeartbeats 8000000 in
theorem rproves_ok (v vp : Value) (d : List Nat) (i n : Nat) (P : List (List Nat)) (R : List Nat) (w : World) (hd : Byt w v d) (h8 : U8 d) (hdl : d.length ≤ 100000) (hi : i < n) (hn : n ≤ 1099511627776) (hP : PS w vp P) (hR : R.length = 32) :
    Calls Tryd.prog 35 #[v, .int .i64 (i : Int), .int .i64 (n : Int), vp, .agg (bv R).toArray] w fun e w' => e = .returned (.int .i64 (provesE d i n P R)) ∧ Below w.heap.size w w' := by
  rw [provesE_sides]
  have hz := zero27
  generalize hZ : (bv (List.replicate 32 0)).toArray = Z at hz
  have HZS : Hid (Z.size = 32) := hide (by rw [← hZ, List.size_toArray, bv_len, List.length_replicate])
  have HSD := hide (p := ∀ w', Below w.heap.size w w' → _) (fun w' (hw' : Below w.heap.size w w') => rsides_any n i w' (by omega) hn hi)
  have HLF := hide (p := ∀ w', Below w.heap.size w w' → _) (fun w' hw' => rleaf_any v d w' (hd.call hw') h8 hdl)
  have s40 := sides_40 n i hn
  obtain ⟨S, hS⟩ : ∃ S, sidesL i n = S := ⟨_, rfl⟩
  rw [hS] at HSD s40 ⊢
  have lf1 : (leafL d).length = 32 := sumL_len _ _
  have lf8 : U8 (leafL d) := sumL_8 _ _
  obtain ⟨lf, hlf⟩ : ∃ l, leafL d = l := ⟨_, rfl⟩
  rw [hlf] at HLF lf1 lf8 ⊢
  obtain ⟨RA, hRA⟩ : ∃ A, (bv R).toArray = A := ⟨_, rfl⟩
  have HRA := hide hRA
  have HRS : Hid (RA.size = 32) := hide (by rw [← hRA, List.size_toArray, bv_len, hR])
  have HB1 : Hid (Below w.heap.size w (w.alloc (.cells RA 43))) := hide ((Below.refl _ _).alloc (Nat.le_refl _) _)
  have HR9 : Hid (RowAt (w.alloc (.cells RA 43)) w.heap.size 43 (bv R)) := hide (hRA ▸ RowAt.new w 43 (bv R))
  have HNX : Hid (w.heap.size < (w.alloc (.cells RA 43)).heap.size) := hide (by rw [size_alloc]; omega)
  have HHR := hide hR
  rw [hRA]
  have i0 : ¬ (i : Int) < 0 := by omega
  have i1 : ¬ (n : Int) ≤ (i : Int) := by omega
  have n1 : ¬ (1099511627776 : Int) < (n : Int) := by omega
  have HV := byt_shape hd
  obtain ⟨va, vc, rfl⟩ := HV
  have HP := hide hP
  obtain ⟨pa, pc, rfl, hpc, hpn, hp32, hps⟩ := id hP
  obtain ⟨dn, hdn⟩ : ∃ m, d.length = m := ⟨_, rfl⟩
  rw [hdn] at HLF ⊢
  by_cases hlen : P.length = S.length
  rotate_left
  · rw [if_neg (fun h => hlen h.1)]
    obtain ⟨pn, hpn'⟩ : ∃ m, P.length = m := ⟨_, rfl⟩
    obtain ⟨sn, hsn'⟩ : ∃ m, S.length = m := ⟨_, rfl⟩
    rw [hpn'] at hlen ⊢
    have HSN := hide hsn'
    rw [hsn'] at hlen
    have q1 : ((sn : Int) != (pn : Int)) = true := bne_iff_ne.2 (by omega)
    have q2 : ((sn : Int) == (pn : Int)) = false := beq_eq_false_iff_ne.2 (by omega)
    have q3 : ¬ sn = pn := by omega
    clear hd h8 hdl hi hn hP hR hZ lf1 lf8 hlf hRA hps hp32 hpn hpc hlen hS hpn' hsn' s40 HLF hdn
    go_enter Tryd.func35, Tryd.ntmps35
    go_wp2_with fail
    generalize w.alloc (.cells RA 43) = w1 at *
    refine Calls.mono (unhide HSD _ (unhide HB1)) ?_
    rintro e w2 ⟨sv, rfl, b2, S2⟩
    obtain ⟨sa, sc, hsv, _⟩ := own_shape S2
    rw [unhide HSN] at hsv
    subst hsv
    have HB2 := hide (bcall (unhide HB1) b2)
    clear b2 S2 HSD
    go_wp2_with fail
    go_ret
    exact ⟨rfl, unhide HB2⟩
  obtain ⟨N, hN⟩ : ∃ m, P.length = m := ⟨_, rfl⟩
  have hSN : S.length = N := by omega
  rw [hN]
  have HNN := hide (And.intro hN hSN)
  have N40 : (N : Int) ≤ 40 := by omega
  have nq1 : ((N : Int) != (N : Int)) = false := by simp
  have HUP : Hid (∀ k, (upL lf (S.take k) (P.take k)).length = 32 ∧ U8 (upL lf (S.take k) (P.take k))) := hide (fun k => upL_ok lf1 lf8 _ _)
  have u0 : upL lf (S.take 0) (P.take 0) = lf := by simp [upL]
  have uN : upL lf (S.take N) (P.take N) = upL lf S P := by rw [List.take_of_length_le (by omega), List.take_of_length_le (by omega)]
  have HU0 := hide u0
  have HUN := hide uN
  obtain ⟨r, hr⟩ : ∃ r, decide (upL lf S P = R) = r := ⟨_, rfl⟩
  have hE : (if N = S.length ∧ upL lf S P = R then (0 : Int) else 140) = if r = true then 0 else 140 := by rw [← hr]; simp [hSN]
  rw [hE]
  have HRR := hide hr
  obtain ⟨LF, hLF⟩ : ∃ A, (bv lf).toArray = A := ⟨_, rfl⟩
  rw [hLF] at HLF
  have HLA := hide hLF
  have HLS : Hid (LF.size = 32) := hide (by rw [← hLF, List.size_toArray, bv_len, lf1])
  have HLO : Hid (LF.all (·.oneCell') = true) := hide (hLF ▸ one_bv _)
  have HLL := hide (And.intro lf1 lf8)
  have HPS := hide (And.intro hps hp32)
  clear hd h8 hdl hi hn hP hR hZ lf1 lf8 hlf hRA hps hp32 hpn hpc hlen hS hN hSN s40 hdn u0 uN hr hE hLF
  go_enter Tryd.func35, Tryd.ntmps35
  go_wp2_with fail
  generalize w.alloc (.cells RA 43) = w1 at *
  refine Calls.mono (unhide HSD _ (unhide HB1)) ?_
  rintro e w2 ⟨sv, rfl, b2, S2⟩
  have HB2 := hide (bcall (unhide HB1) b2)
  have HR92 := hide ((unhide HR9).below b2 (unhide HNX))
  have HNX2 := hide (Nat.lt_of_lt_of_le (unhide HNX) b2.size)
  have HS2 := hide S2
  obtain ⟨sa, sc, hsv, _⟩ := own_shape S2
  have hsv2 := hsv
  rw [(unhide HNN).2] at hsv2
  have HSV := hide hsv
  subst hsv2
  clear b2 S2 HSD hsv
  go_wp2_with fail
  refine Calls.mono (unhide HLF _ (unhide HB2)) ?_
  rintro e w3 ⟨rfl, b3⟩
  have HB3 := hide (bcall (unhide HB2) b3)
  have HS3 := hide ((unhide HS2).call b3)
  have HR93 := hide ((unhide HR92).below b3 (unhide HNX2))
  have HNX3 := hide (Nat.lt_of_lt_of_le (unhide HNX2) b3.size)
  have HB4 := hide ((unhide HB3).alloc (unhide HB3).size (.cells LF 43))
  have b3a : Below w3.heap.size w3 (w3.alloc (.cells LF 43)) := (Below.refl _ _).alloc (Nat.le_refl _) _
  have HR94 := hide ((unhide HR93).below b3a (unhide HNX3))
  have HS4 := hide ((unhide HS3).call b3a)
  have HR12 : Hid (RowAt (w3.alloc (.cells LF 43)) w3.heap.size 43 (bv lf)) := hide (unhide HLA ▸ RowAt.new w3 43 (bv lf))
  have HBX := hide (Bls.call' (unhide HS3))
  clear b3 b3a HLF
  go_wp2_with (refine wpList_store_new rfl 43 _ _ rfl LF rfl rfl (by rw [z27, unhide HLS]) (by rw [unhide HLS, unhide HZS]) (unhide HLO) ?_)
  obtain ⟨G, hG⟩ : ∃ g, w3.heap.size = g := ⟨_, rfl⟩
  have HG := hide hG
  rw [hG] at HR12 HNX3 HBX ⊢
  generalize w3.alloc (.cells LF 43) = wL at *
  clear hG
  go_loopw [38] (fun s wr => ∃ k : Nat, k ≤ N ∧ s = .int .i64 (k : Int) ∧ Hid (RowAt wr G 43 (bv (upL lf (S.take k) (P.take k))) ∧ Below G wL wr)) (fun s _ => (N - intOf s).toNat)
  case atStart => exact ⟨0, by omega, by simp, hide ⟨by rw [unhide HU0]; exact unhide HR12, Below.refl _ _⟩⟩
  case round =>
    obtain ⟨k, hk, rfl, HI⟩ := hrel
    have HGL : Hid (G < wL.heap.size) := hide (unhide HR12).lt
    by_cases hlt : k < N
    · obtain ⟨hlP, hlS⟩ := unhide HNN
      obtain ⟨hps, hp32⟩ := unhide HPS
      obtain ⟨hrow, hbel⟩ := unhide HI
      rcases hps with hps | ⟨g, o, rfl, hps⟩
      · rw [hps] at hlP; simp at hlP; omega
      obtain ⟨x, hx⟩ : ∃ x, P[k]? = some x := ⟨_, List.getElem?_eq_getElem (by omega)⟩
      obtain ⟨b, hb⟩ : ∃ x, S[k]? = some x := ⟨_, List.getElem?_eq_getElem (by omega)⟩
      obtain ⟨x1, x8⟩ := hp32 x (List.mem_of_getElem? hx)
      have BW : Below w.heap.size w wr := (unhide HB4).trans (hbel.mono (Nat.le_of_lt (unhide HNX3)))
      have HST := hide (upL_take (s := lf) hb hx)
      obtain ⟨l1, l8⟩ := unhide HUP k
      obtain ⟨U, hU⟩ : ∃ U, upL lf (S.take k) (P.take k) = U := ⟨_, rfl⟩
      rw [hU] at hrow HST l1 l8
      obtain ⟨sg, sc', hsg, _⟩ := own_some (unhide HS4) (by omega)
      have hsg' := hsg
      rw [hlS] at hsg'
      obtain ⟨rfl, rfl⟩ : sa = some ⟨sg, 0, none⟩ ∧ sc = sc' := by simpa using hsg'
      have cb : wr.cell? ⟨sg, k, none⟩ = some (.bool b) := by
        have hblk : sg < G := unhide HBX sg rfl
        have h0 := Bls.at (hlS ▸ unhide HS4) hb
        exact (World.cell?_of_block (hbel.block _ hblk)).trans h0
      obtain ⟨XA, hXA⟩ : ∃ A, (bv x).toArray = A := ⟨_, rfl⟩
      obtain ⟨UA, hUA⟩ : ∃ A, (bv U).toArray = A := ⟨_, rfl⟩
      have HLX := hide ((hps.call BW).load hx hXA)
      have HXS : Hid (XA.size = 32) := hide (by rw [← hXA, List.size_toArray, bv_len, x1])
      have HXO : Hid (XA.all (·.oneCell') = true) := hide (hXA ▸ one_bv _)
      have HUS : Hid (UA.size = 32) := hide (by rw [← hUA, List.size_toArray, bv_len, l1])
      have B1 : Below w.heap.size w (wr.alloc (.cells XA 43)) := BW.alloc BW.size _
      have b1 : Below wr.heap.size wr (wr.alloc (.cells XA 43)) := (Below.refl _ _).alloc (Nat.le_refl _) _
      have cb1 : (wr.alloc (.cells XA 43)).cell? ⟨sg, k, none⟩ = some (.bool b) := (World.cell?_of_block (b1.block _ (World.block_lt_of_cell? _ _ cb))).trans cb
      have HX14 : Hid (RowAt (wr.alloc (.cells XA 43)) wr.heap.size 43 (bv x)) := hide (hXA ▸ RowAt.new wr 43 (bv x))
      have HX12 := hide (hrow.below b1 hrow.lt)
      have HBG := hide (hbel.alloc (Nat.le_trans (Nat.le_of_lt (unhide HGL)) hbel.size) (.cells XA 43))
      have HXA := hide hXA
      have HUA := hide hUA
      have kI : (k : Int) < (N : Int) := by omega
      have HE14 := hide ((unhide HX14).arr hXA)
      have HE12 := hide ((unhide HX12).arr hUA)
      have HGW : Hid (G < wr.heap.size) := hide hrow.lt
      cases b with
      | true =>
        have HKN := hide (fun W => rknot_any x U W x1 l1 x8 l8)
        have hups : upS U true x = knotL x U := rfl
        rw [hups] at HST
        obtain ⟨KD, hKD⟩ : ∃ K, knotL x U = K := ⟨_, rfl⟩
        rw [hKD] at HKN HST
        have HKL : Hid (KD.length = 32) := hide (by rw [← hKD, knotL_len])
        obtain ⟨KA, hKA⟩ : ∃ A, (bv KD).toArray = A := ⟨_, rfl⟩
        rw [hKA, hXA, hUA] at HKN
        have HKS : Hid (KA.size = 32) := hide (by rw [← hKA, List.size_toArray, bv_len, unhide HKL])
        have HKO : Hid (KA.all (·.oneCell') = true) := hide (hKA ▸ one_bv _)
        have HKA := hide hKA
        clear hKA hKD hups hXA hUA hU x1 x8 l1 l8 hx hb hps hp32 hlP hlS hrow hbel BW B1 b1 cb HI hsg hsg'
        go_wp2_with (first
          | (refine wpList_load_run rfl 43 _ rfl ⟨g, o + k * 32, none⟩ rfl (.agg XA) (unhide HLX) ?_)
          | (refine wpList_store_new rfl 43 _ _ rfl XA rfl rfl (by rw [z27, unhide HXS]) (by rw [unhide HXS, unhide HZS]) (unhide HXO) ?_)
          | (refine wpList_load_row rfl 43 _ rfl wr.heap.size rfl 43 XA (0, 0) _ (unhide HE14) Tryd.underlying43 rfl (by rw [z27, unhide HXS]) ?_)
          | (refine wpList_load_row rfl 43 _ rfl G rfl 43 UA (0, 0) _ (unhide HE12) Tryd.underlying43 rfl (by rw [z27, unhide HUS]) ?_))
        refine Calls.mono (unhide HKN _) ?_
        rintro e w6 ⟨rfl, b6⟩
        have HE6 := hide (((unhide HX12).below b6 (unhide HX12).lt).arr (unhide HUA))
        have HBG6 := hide ((unhide HBG).trans (b6.mono (Nat.le_trans (Nat.le_of_lt (unhide HGL)) (unhide HBG).size)))
        clear b6 HKN
        go_wp2_with (refine wpList_store_row rfl 43 _ _ rfl G KA rfl rfl 43 UA (unhide HE6) (by rw [z27, unhide HKS]) (by rw [unhide HKS, unhide HUS]) (unhide HKO) ?_)
        go_roundw
        case rel => exact ⟨k + 1, by omega, by simp, hide ⟨by rw [unhide HST]; exact (unhide HKA) ▸ setRow_heap _ _ _ _ _ _ (unhide HE6), (unhide HBG6).trans ⟨rfl, rfl, rfl, by simp [World.setRow], fun k hk => setRow_other _ _ _ _ (by omega)⟩⟩⟩
        case measure => simp [intOf]; omega
      | false =>
        have HKN := hide (fun W => rknot_any U x W l1 x1 l8 x8)
        have hups : upS U false x = knotL U x := rfl
        rw [hups] at HST
        obtain ⟨KD, hKD⟩ : ∃ K, knotL U x = K := ⟨_, rfl⟩
        rw [hKD] at HKN HST
        have HKL : Hid (KD.length = 32) := hide (by rw [← hKD, knotL_len])
        obtain ⟨KA, hKA⟩ : ∃ A, (bv KD).toArray = A := ⟨_, rfl⟩
        rw [hKA, hXA, hUA] at HKN
        have HKS : Hid (KA.size = 32) := hide (by rw [← hKA, List.size_toArray, bv_len, unhide HKL])
        have HKO : Hid (KA.all (·.oneCell') = true) := hide (hKA ▸ one_bv _)
        have HKA := hide hKA
        clear hKA hKD hups hXA hUA hU x1 x8 l1 l8 hx hb hps hp32 hlP hlS hrow hbel BW B1 b1 cb HI hsg hsg'
        go_wp2_with (first
          | (refine wpList_load_run rfl 43 _ rfl ⟨g, o + k * 32, none⟩ rfl (.agg XA) (unhide HLX) ?_)
          | (refine wpList_store_new rfl 43 _ _ rfl XA rfl rfl (by rw [z27, unhide HXS]) (by rw [unhide HXS, unhide HZS]) (unhide HXO) ?_)
          | (refine wpList_load_row rfl 43 _ rfl wr.heap.size rfl 43 XA (0, 0) _ (unhide HE14) Tryd.underlying43 rfl (by rw [z27, unhide HXS]) ?_)
          | (refine wpList_load_row rfl 43 _ rfl G rfl 43 UA (0, 0) _ (unhide HE12) Tryd.underlying43 rfl (by rw [z27, unhide HUS]) ?_))
        refine Calls.mono (unhide HKN _) ?_
        rintro e w6 ⟨rfl, b6⟩
        have HE6 := hide (((unhide HX12).below b6 (unhide HX12).lt).arr (unhide HUA))
        have HBG6 := hide ((unhide HBG).trans (b6.mono (Nat.le_trans (Nat.le_of_lt (unhide HGL)) (unhide HBG).size)))
        clear b6 HKN
        go_wp2_with (refine wpList_store_row rfl 43 _ _ rfl G KA rfl rfl 43 UA (unhide HE6) (by rw [z27, unhide HKS]) (by rw [unhide HKS, unhide HUS]) (unhide HKO) ?_)
        go_roundw
        case rel => exact ⟨k + 1, by omega, by simp, hide ⟨by rw [unhide HST]; exact (unhide HKA) ▸ setRow_heap _ _ _ _ _ _ (unhide HE6), (unhide HBG6).trans ⟨rfl, rfl, rfl, by simp [World.setRow], fun k hk => setRow_other _ _ _ _ (by omega)⟩⟩⟩
        case measure => simp [intOf]; omega
    · obtain rfl : k = N := by omega
      have kI : ¬ (k : Int) < (k : Int) := by omega
      obtain ⟨hrow, hbel⟩ := unhide HI
      have BW : Below w.heap.size w wr := (unhide HB4).trans (hbel.mono (Nat.le_of_lt (unhide HNX3)))
      have hr9 := (unhide HR94).below hbel (unhide HNX3)
      obtain ⟨l1, l8⟩ := unhide HUP k
      rw [unhide HUN] at hrow l1
      have hq := eq_sums (upL lf S P) R l1 (unhide HHR)
      rw [unhide HRR] at hq
      obtain ⟨UA, hUA⟩ : ∃ A, (bv (upL lf S P)).toArray = A := ⟨_, rfl⟩
      rw [hUA, unhide HRA] at hq
      have HUS : Hid (UA.size = 32) := hide (by rw [← hUA, List.size_toArray, bv_len, l1])
      have HE12 := hide (hrow.arr hUA)
      have HE9 := hide (hr9.arr (unhide HRA))
      have HBW := hide BW
      clear hUA l1 l8 hrow hbel BW hr9 hlt HI
      cases r with
      | true =>
        go_wp2_with (first
          | (refine wpList_load_row rfl 43 _ rfl G rfl 43 UA (0, 0) _ (unhide HE12) Tryd.underlying43 rfl (by rw [z27, unhide HUS]) ?_)
          | (refine wpList_load_row rfl 43 _ rfl w.heap.size rfl 43 RA (0, 0) _ (unhide HE9) Tryd.underlying43 rfl (by rw [z27, unhide HRS]) ?_))
        go_ret
        exact ⟨rfl, unhide HBW⟩
      | false =>
        go_wp2_with (first
          | (refine wpList_load_row rfl 43 _ rfl G rfl 43 UA (0, 0) _ (unhide HE12) Tryd.underlying43 rfl (by rw [z27, unhide HUS]) ?_)
          | (refine wpList_load_row rfl 43 _ rfl w.heap.size rfl 43 RA (0, 0) _ (unhide HE9) Tryd.underlying43 rfl (by rw [z27, unhide HRS]) ?_))
        go_ret
        exact ⟨rfl, unhide HBW⟩
end Go.Proofs.YtonkgiiacholeaaDoor
