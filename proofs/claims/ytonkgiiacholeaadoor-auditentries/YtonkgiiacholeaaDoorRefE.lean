/- What the reference's digest reckons, over lists of numbers. -/
import Derived.Test.YtonkgiiacholeaaDoorRefM
import Derived.Test.YtonkgiiacholeaaDoorLists
namespace Go.Proofs.YtonkgiiacholeaaDoor
set_option linter.unusedVariables false
set_option linter.unusedSimpArgs false
open Go.ChangeShapes Go.WideShapes Go.ChangeAt Go.RowKit Go.Joins

theorem stW_eq (k : Nat) : firstW.set 0 ((1795745383 ^^^ (256 * k)) ^^^ 32) = stW k := by
  have h : (1795745383 ^^^ (256 * k)) ^^^ 32 = 1779033703 ^^^ (16842784 ^^^ (256 * k)) := by
    rw [show (1795745383 : Nat) = 1779033703 ^^^ 16842752 by decide, show (16842784 : Nat) = 16842752 ^^^ 32 by decide, Nat.xor_assoc, Nat.xor_assoc, Nat.xor_comm (256 * k) 32, ← Nat.xor_assoc 16842752]
  rw [stW, h]
def xd (x j : Nat) : Nat := x / 256 ^ j
theorem xd_succ (x j : Nat) : xd x (j + 1) = xd x j / 256 := by rw [xd, xd, Nat.pow_succ, Nat.div_div_eq_div_mul]
theorem xd_0 (x : Nat) : xd x 0 = x := by simp [xd]
theorem xd_lt {x : Nat} (h : x < 4294967296) (j : Nat) : xd x j < 4294967296 := Nat.lt_of_le_of_lt (Nat.div_le_self _ _) h
theorem bytes4_get (x j : Nat) (hj : j < 4) : (bytes4 x).getD j 0 = xd x j % 256 := by
  match j, hj with
  | 0, _ => simp [bytes4, xd]
  | 1, _ => simp [bytes4, xd]
  | 2, _ => simp [bytes4, xd]
  | 3, _ => simp [bytes4, xd]
/-- the bytes behind k words and j bytes of the next -/
def oPart (H : List Nat) (k j : Nat) : List Nat := bytesOf H k ++ ((bytes4 (H.getD k 0)).take j ++ List.replicate (32 - 4 * k - j) 0)
theorem bytes4_len (x : Nat) : (bytes4 x).length = 4 := rfl
theorem oPart_len (H : List Nat) (k j : Nat) (hk : k < 8) (hj : j ≤ 4) : (oPart H k j).length = 32 := by
  simp [oPart, bytesOf_len, bytes4_len]; omega
theorem oPart_set (H : List Nat) (k j : Nat) (hk : k < 8) (hj : j < 4) : (oPart H k j).set (4 * k + j) (xd (H.getD k 0) j % 256) = oPart H k (j + 1) := by
  unfold oPart
  generalize H.getD k 0 = x
  have h1 : ((bytes4 x).take j).length = j := by rw [List.length_take, bytes4_len]; omega
  have h2 := bytes4_get x j hj
  have h3 := bytes4_len x
  rw [← h2]
  generalize bytes4 x = B at *
  rw [List.set_append_right _ _ (by rw [bytesOf_len]; omega), bytesOf_len, show 4 * k + j - 4 * k = j by omega, List.set_append_right _ _ (by omega), h1, Nat.sub_self,
    show 32 - 4 * k - j = (32 - 4 * k - (j + 1)) + 1 by omega, List.replicate_succ, List.set_cons_zero, List.take_succ_eq_append_getElem (by omega), List.getD_eq_getElem?_getD, List.getElem?_eq_getElem (by omega), List.append_assoc (List.take j B)]
  rfl
theorem oPart_next (H : List Nat) (k : Nat) (hk : k < 8) : oPart H k 4 = oPart H (k + 1) 0 := by
  rw [oPart, oPart, bytesOf, List.take_of_length_le (by rw [bytes4_len]; omega), List.append_assoc, List.take_zero, List.nil_append, show 32 - 4 * k - 4 = 32 - 4 * (k + 1) - 0 by omega]
theorem oPart_0 (H : List Nat) : oPart H 0 0 = List.replicate 32 0 := rfl
theorem oPart_8 (H : List Nat) : oPart H 8 0 = bytesOf H 8 := by simp [oPart]
theorem nf_le (N k : Nat) (hk : k ≤ (N - 1) / 64) : 64 * k ≤ N ∧ k < N / 64 + 1 ∧ (N - 64 * k ≤ 64 ↔ k = (N - 1) / 64) := by omega
theorem u8_take {l : List Nat} (h : U8 l) (n : Nat) : U8 (l.take n) := fun y hy => h y (List.mem_of_mem_take hy)
theorem u8_drop {l : List Nat} (h : U8 l) (n : Nat) : U8 (l.drop n) := fun y hy => h y (List.mem_of_mem_drop hy)
theorem u8_pad {l : List Nat} (h : U8 l) (n : Nat) : U8 (l ++ List.replicate n 0) := by
  intro y hy
  rcases List.mem_append.1 hy with hy | hy
  · exact h y hy
  · rw [(List.mem_replicate.1 hy).2]; decide
theorem u8_app {l m : List Nat} (h : U8 l) (h' : U8 m) : U8 (l ++ m) := by
  intro y hy
  rcases List.mem_append.1 hy with hy | hy
  · exact h y hy
  · exact h' y hy
theorem bv_set (l : List Nat) (i x : Nat) : (bv l).set i (.int .u8 (x : Int)) = bv (l.set i x) := by simp [bv, List.map_set]
theorem new_cells (w : World) (cs : List Value) (t : TypeId) (j : Nat) (u : Value) (h : cs[j]? = some u) : (w.alloc (.cells cs.toArray t)).cell? ((⟨w.heap.size, 0, none⟩ : Addr).add j) = some u := by
  rw [add_plain, Nat.zero_add, (RowAt.new w t cs).cell]; exact h
theorem own_off {w : World} {base : Nat} {v : Value} {n : Nat} {xs : List Value} {p : Nat → Prop} (h : w.ownsRow base 5 1 v n xs) (hp : ∀ k, p k → k < base) : Off v p := by
  intro k hk hpk
  have := (h.lt k hk).1
  have := hp k hpk
  omega
/-- the bytes of a slice of a slice -/
theorem Byt.sub {w : World} {a : Addr} {n c : Nat} {l : List Nat} (h : Byt w (.slice (some a) n c) l) (i m : Nat) (hm : i + m ≤ n) : ∀ j u, (bv ((l.drop i).take m))[j]? = some u → w.cell? ((a.add i).add j) = some u := by
  rcases h with ⟨h, _⟩ | ⟨a', c', h1, h2, h3, h4⟩
  · cases h
  · injection h1 with e1 e2 e3
    injection e1 with e1
    subst e1
    intro j u hj
    obtain ⟨y, hy, rfl⟩ := bv_get hj
    have hlt : j < m := by
      have := (List.getElem?_eq_some_iff.1 hy).1
      rw [List.length_take] at this
      omega
    rw [List.getElem?_take, if_pos hlt, List.getElem?_drop] at hy
    rw [Addr.add_add]
    exact h4 (i + j) y hy
theorem z5' : (Tryd.prog.info? 5).map (·.size) = some 1 := by kernel_rfl
theorem slice_run (a : Option Addr) (N c m M : Nat) (w : World) (h1 : m + M ≤ c) :
    (Instr.sliceAt 22 (.slice a N c) (some (.int .i64 (m : Int))) (some (.int .i64 ((m : Int) + (M : Int)))) none).run Tryd.prog w = .ok (.slice (if c = m then a else a.map (·.add m)) M (c - m)) w := by
  have e1 : ((0 : Int) ≤ (m : Int) + (M : Int) ∧ (m : Int) + (M : Int) ≤ (c : Int)) := by omega
  have e2 : ((m : Int) + (M : Int)).toNat = m + M := by omega
  have e3 : ((0 : Int) ≤ (m : Int) ∧ (m : Int) ≤ ((m + M : Nat) : Int)) := by omega
  have e4 : (m : Int) ≤ (m : Int) + (M : Int) := by omega
  have e5 : m + M - m = M := by omega
  have e6 : (0 : Int) ≤ (M : Int) := by omega
  simp [Instr.sliceAt, run_underlying Tryd.underlying22, Instr.slice, Instr.sliceBounds, Instr.sliceBound, asIntOf, e1, e1.1, e1.2, e2, e3, e4, e5, e6, run_size z5']
theorem wpList_slice2 {P : Program} {ops : Array Oper} {rest : List Oper} {o : Oper} {a : Act} {w : World} {Q : Exit → Act → World → Prop} (hgd : o.guard = none) (t : TypeId) (x lo hi : Operand) (ho : o.op = .slice t x (some lo) (some hi) none)
    (v vl vh : Value) (hx : a.eval x = v) (hlo : a.eval lo = vl) (hhi : a.eval hi = vh) (r : Value) (hrun : (Instr.sliceAt t v (some vl) (some vh) none).run P w = .ok r w) (h : wpList P ops Q rest (a.put o.dst r) w) : wpList P ops Q (o :: rest) a w := by
  refine wpList_plain hgd fun K hK => ?_
  unfold Oper.wp execOp
  simp only [ho, hx, hlo, hhi, Option.map_some, Option.map_none, Sem.run_bind, Sem.run_pure, Result.andThen_ok, hrun]
  exact hK _ _ h
theorem Byt.sub' {w : World} {a : Option Addr} {n c : Nat} {l : List Nat} (h : Byt w (.slice a n c) l) (i m : Nat) (hm : i + m ≤ n) : (∀ b, (if c = i then a else a.map (·.add i)) = some b → ∀ j u, (bv ((l.drop i).take m))[j]? = some u → w.cell? (b.add j) = some u) ∧ ((if c = i then a else a.map (·.add i)) = none → m = 0) := by
  rcases a with _ | ad
  · have h0 : n = 0 := by
      rcases h with ⟨h, _⟩ | ⟨a', c', h1, _⟩
      · injection h with e1 e2 e3
      · injection h1 with e1; cases e1
    refine ⟨fun b hb => ?_, fun _ => by omega⟩
    split at hb <;> cases hb
  · have hc : n ≤ c := by
      rcases h with ⟨h, _⟩ | ⟨a', c', h1, h2, h3, h4⟩
      · injection h with e1; cases e1
      · injection h1 with e1 e2 e3; omega
    by_cases hci : c = i
    · have hm0 : m = 0 := by omega
      refine ⟨fun b hb j u hj => ?_, fun _ => hm0⟩
      rw [hm0, List.take_zero] at hj
      cases hj
    · rw [if_neg hci]
      refine ⟨fun b hb j u hj => ?_, fun hb => by cases hb⟩
      injection hb with hb
      subst hb
      exact h.sub i m hm j u hj
end Go.Proofs.YtonkgiiacholeaaDoor
