/- The reference's words: turned right; stirred. -/
import Derived.Test.YtbnfilhilgjnfaaDoorNew
namespace Go.Proofs.YtbnfilhilgjnfaaDoor
set_option linter.unusedVariables false
set_option linter.unusedSimpArgs false
open Go.ChangeShapes Go.WideShapes Go.ChangeAt Go.RowKit Go.Joins

def rr1 (x : Nat) : Nat := x / 2 + x % 2 * 2147483648
def rrK (x : Nat) : Nat → Nat
  | 0 => x
  | k + 1 => rr1 (rrK x k)
theorem rr1_lt {x : Nat} (h : x < 4294967296) : rr1 x < 4294967296 := by unfold rr1; omega
theorem rrK_lt {x : Nat} (h : x < 4294967296) : ∀ k, rrK x k < 4294967296
  | 0 => h
  | k + 1 => rr1_lt (rrK_lt h k)
theorem rrK_eq (x : Nat) : ∀ k, k ≤ 32 → rrK x k = x / 2 ^ k + x % 2 ^ k * 2 ^ (32 - k)
  | 0, _ => by simp [rrK, Nat.mod_one]
  | k + 1, hk => by
    rw [rrK, rrK_eq x k (by omega)]
    have e1 : 2 ^ (32 - k) = 2 * 2 ^ (32 - (k + 1)) := by rw [show 32 - k = (32 - (k + 1)) + 1 by omega, Nat.pow_succ, Nat.mul_comm]
    have e2 : 2 ^ k * 2 ^ (32 - (k + 1)) = 2147483648 := by rw [← Nat.pow_add, show k + (32 - (k + 1)) = 31 by omega]
    have e3 : x % 2 ^ (k + 1) = x % 2 ^ k + 2 ^ k * (x / 2 ^ k % 2) := by rw [Nat.pow_succ, Nat.mod_mul]
    have e4 : x / 2 ^ (k + 1) = x / 2 ^ k / 2 := by rw [Nat.pow_succ, Nat.div_div_eq_div_mul]
    rw [e1, e3, e4, Nat.add_mul]
    have e5 : 2 ^ k * (x / 2 ^ k % 2) * 2 ^ (32 - (k + 1)) = x / 2 ^ k % 2 * 2147483648 := by rw [← e2, Nat.mul_comm (2 ^ k), Nat.mul_assoc]
    rw [e5]
    have e6 : x % 2 ^ k * (2 * 2 ^ (32 - (k + 1))) = 2 * (x % 2 ^ k * 2 ^ (32 - (k + 1))) := by rw [← Nat.mul_assoc, Nat.mul_comm _ 2, Nat.mul_assoc]
    rw [e6]
    generalize x % 2 ^ k * 2 ^ (32 - (k + 1)) = p
    generalize x / 2 ^ k = q
    unfold rr1
    omega
theorem rrK_rl (x k : Nat) (hk : k ≤ 32) (hx : x < 4294967296) : rrK x k = rl x (32 - k) := by
  rw [rrK_eq x k hk, rl, (rl_or x (32 - k) (by omega) hx).2.2.2.2, show 32 - (32 - k) = k by omega, Nat.mul_comm, Nat.add_comm]

theorem z65 : (Tryd.prog.info? 111).map (·.size) = some 16 := by kernel_rfl
theorem info65 : (Tryd.prog.info? 111).map (·.zero) = some (some (.agg (u32v (List.replicate 16 0)).toArray)) := by kernel_rfl
theorem zero65 (w : World) : (zeroValue 111).run Tryd.prog w = .ok (.agg (u32v (List.replicate 16 0)).toArray) w := by
  have h := info65
  generalize (u32v (List.replicate 16 0)).toArray = Z at *
  cases hq : Tryd.prog.info? 111 with
  | none => simp [hq] at h
  | some i => simp [hq] at h; simp [zeroValue, typeInfo, hq, h]

theorem gset {l : List Nat} {i j x : Nat} (hi : i < l.length) : (l.set i x).getD j 0 = if i = j then x else l.getD j 0 := by
  simp only [List.getD_eq_getElem?_getD, List.getElem?_set]
  split
  · subst_vars; simp [hi]
  · rfl

def St (a b c d : Nat) (w : World) (g : Nat) (l : List Nat) (va vb vc vd : Nat) : Prop := RowAt w g 111 (u32v l) ∧ l.length = 16 ∧ l.getD a 0 = va ∧ l.getD b 0 = vb ∧ l.getD c 0 = vc ∧ l.getD d 0 = vd
theorem St.cell {a b c d : Nat} {w : World} {g : Nat} {l : List Nat} {va vb vc vd : Nat} (h : St a b c d w g l va vb vc vd) (ha : a < 16) (hb : b < 16) (hc : c < 16) (hd : d < 16) :
    w.cell? ⟨g, a, none⟩ = some (.int .u32 (va : Int)) ∧ w.cell? ⟨g, b, none⟩ = some (.int .u32 (vb : Int)) ∧ w.cell? ⟨g, c, none⟩ = some (.int .u32 (vc : Int)) ∧ w.cell? ⟨g, d, none⟩ = some (.int .u32 (vd : Int)) := by
  obtain ⟨h1, h2, rfl, rfl, rfl, rfl⟩ := h
  exact ⟨u32_cell h1 a (by omega), u32_cell h1 b (by omega), u32_cell h1 c (by omega), u32_cell h1 d (by omega)⟩
theorem St.seta {a b c d : Nat} {w : World} {g : Nat} {l : List Nat} {va vb vc vd : Nat} (h : St a b c d w g l va vb vc vd) (ha : a < 16) (hb : b < 16) (hc : c < 16) (hd : d < 16) (hab : ¬ a = b) (hac : ¬ a = c) (had : ¬ a = d) (hbc : ¬ b = c) (hbd : ¬ b = d) (hcd : ¬ c = d) (v : Nat) :
    St a b c d (w.setCell ⟨g, a, none⟩ (.int .u32 (v : Int))).drew g (l.set a v) v vb vc vd := by
  obtain ⟨h1, h2, rfl, rfl, rfl, rfl⟩ := h
  have hr := h1.set a (.int .u32 (v : Int))
  rw [u32v_set] at hr
  refine ⟨hr.drew, by simp [h2], ?_, ?_, ?_, ?_⟩ <;> (rw [gset (by omega)]; first | rw [if_pos rfl] | rw [if_neg (by omega)])
theorem St.setb {a b c d : Nat} {w : World} {g : Nat} {l : List Nat} {va vb vc vd : Nat} (h : St a b c d w g l va vb vc vd) (ha : a < 16) (hb : b < 16) (hc : c < 16) (hd : d < 16) (hab : ¬ a = b) (hac : ¬ a = c) (had : ¬ a = d) (hbc : ¬ b = c) (hbd : ¬ b = d) (hcd : ¬ c = d) (v : Nat) :
    St a b c d (w.setCell ⟨g, b, none⟩ (.int .u32 (v : Int))).drew g (l.set b v) va v vc vd := by
  obtain ⟨h1, h2, rfl, rfl, rfl, rfl⟩ := h
  have hr := h1.set b (.int .u32 (v : Int))
  rw [u32v_set] at hr
  refine ⟨hr.drew, by simp [h2], ?_, ?_, ?_, ?_⟩ <;> (rw [gset (by omega)]; first | rw [if_pos rfl] | rw [if_neg (by omega)])
theorem St.setc {a b c d : Nat} {w : World} {g : Nat} {l : List Nat} {va vb vc vd : Nat} (h : St a b c d w g l va vb vc vd) (ha : a < 16) (hb : b < 16) (hc : c < 16) (hd : d < 16) (hab : ¬ a = b) (hac : ¬ a = c) (had : ¬ a = d) (hbc : ¬ b = c) (hbd : ¬ b = d) (hcd : ¬ c = d) (v : Nat) :
    St a b c d (w.setCell ⟨g, c, none⟩ (.int .u32 (v : Int))).drew g (l.set c v) va vb v vd := by
  obtain ⟨h1, h2, rfl, rfl, rfl, rfl⟩ := h
  have hr := h1.set c (.int .u32 (v : Int))
  rw [u32v_set] at hr
  refine ⟨hr.drew, by simp [h2], ?_, ?_, ?_, ?_⟩ <;> (rw [gset (by omega)]; first | rw [if_pos rfl] | rw [if_neg (by omega)])
theorem St.setd {a b c d : Nat} {w : World} {g : Nat} {l : List Nat} {va vb vc vd : Nat} (h : St a b c d w g l va vb vc vd) (ha : a < 16) (hb : b < 16) (hc : c < 16) (hd : d < 16) (hab : ¬ a = b) (hac : ¬ a = c) (had : ¬ a = d) (hbc : ¬ b = c) (hbd : ¬ b = d) (hcd : ¬ c = d) (v : Nat) :
    St a b c d (w.setCell ⟨g, d, none⟩ (.int .u32 (v : Int))).drew g (l.set d v) va vb vc v := by
  obtain ⟨h1, h2, rfl, rfl, rfl, rfl⟩ := h
  have hr := h1.set d (.int .u32 (v : Int))
  rw [u32v_set] at hr
  refine ⟨hr.drew, by simp [h2], ?_, ?_, ?_, ?_⟩ <;> (rw [gset (by omega)]; first | rw [if_pos rfl] | rw [if_neg (by omega)])
theorem sets8 (a b c d a1 b1 c1 d1 a2 b2 c2 d2 : Nat) (l : List Nat) (hab : ¬ a = b) (hac : ¬ a = c) (had : ¬ a = d) (hbc : ¬ b = c) (hbd : ¬ b = d) (hcd : ¬ c = d) :
    (((((((l.set a a1).set d d1).set c c1).set b b1).set a a2).set d d2).set c c2).set b b2 = (((l.set a a2).set b b2).set c c2).set d d2 := by
  apply List.ext_getElem?
  intro i
  simp only [List.getElem?_set, List.length_set]
  by_cases h1 : a = i <;> by_cases h2 : b = i <;> by_cases h3 : c = i <;> by_cases h4 : d = i <;> first | (exfalso; omega) | simp only [h1, h2, h3, h4, if_true, if_false]
end Go.Proofs.YtbnfilhilgjnfaaDoor
