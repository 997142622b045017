/- The reference's words: turned right; stirred. -/
import Derived.Test.YtonkgiiacholeaaDoorNew
namespace Go.Proofs.YtonkgiiacholeaaDoor
set_option linter.unusedVariables false
set_option linter.unusedSimpArgs false
open Go.ChangeShapes Go.WideShapes Go.ChangeAt Go.RowKit Go.Joins

def rr1 (x : Nat) : Nat := x / 2 + x % 2 * 2147483648
def rrK (x : Nat) : Nat → Nat
  | 0 => x
  | k + 1 => rr1 (rrK x k)
theorem rr1_lt {x : Nat} (h : x < 4294967296) : rr1 x < 4294967296 := by unfold rr1; omega
theorem rrK_lt {x : Nat} (h : x < 4294967296) : ∀ k, rrK x k < 4294967296
  | 0 => h
  | k + 1 => rr1_lt (rrK_lt h k)
theorem rrK_eq (x : Nat) : ∀ k, k ≤ 32 → rrK x k = x / 2 ^ k + x % 2 ^ k * 2 ^ (32 - k)
  | 0, _ => by simp [rrK, Nat.mod_one]
  | k + 1, hk => by
    rw [rrK, rrK_eq x k (by omega)]
    have e1 : 2 ^ (32 - k) = 2 * 2 ^ (32 - (k + 1)) := by rw [show 32 - k = (32 - (k + 1)) + 1 by omega, Nat.pow_succ, Nat.mul_comm]
    have e2 : 2 ^ k * 2 ^ (32 - (k + 1)) = 2147483648 := by rw [← Nat.pow_add, show k + (32 - (k + 1)) = 31 by omega]
    have e3 : x % 2 ^ (k + 1) = x % 2 ^ k + 2 ^ k * (x / 2 ^ k % 2) := by rw [Nat.pow_succ, Nat.mod_mul]
    have e4 : x / 2 ^ (k + 1) = x / 2 ^ k / 2 := by rw [Nat.pow_succ, Nat.div_div_eq_div_mul]
    rw [e1, e3, e4, Nat.add_mul]
    have e5 : 2 ^ k * (x / 2 ^ k % 2) * 2 ^ (32 - (k + 1)) = x / 2 ^ k % 2 * 2147483648 := by rw [← e2, Nat.mul_comm (2 ^ k), Nat.mul_assoc]
    rw [e5]
    have e6 : x % 2 ^ k * (2 * 2 ^ (32 - (k + 1))) = 2 * (x % 2 ^ k * 2 ^ (32 - (k + 1))) := by rw [← Nat.mul_assoc, Nat.mul_comm _ 2, Nat.mul_assoc]
    rw [e6]
    generalize x % 2 ^ k * 2 ^ (32 - (k + 1)) = p
    generalize x / 2 ^ k = q
    unfold rr1
    omega
theorem rrK_rl (x k : Nat) (hk : k ≤ 32) (hx : x < 4294967296) : rrK x k = rl x (32 - k) := by
  rw [rrK_eq x k hk, rl, (rl_or x (32 - k) (by omega) hx).2.2.2.2, show 32 - (32 - k) = k by omega, Nat.mul_comm, Nat.add_comm]

set_option maxHeartbeats 1000000 in
theorem right_any (x n : Nat) (w : World) (hx : x < 4294967296) (hn : n ≤ 32) :
    Calls Tryd.prog 108 #[.int .u32 (x : Int), .int .i64 (n : Int)] w fun e w' => e = .returned (.int .u32 ((rl x (32 - n) : Nat) : Int)) ∧ w = w' := by
  have HX := hide hx
  go_enter Tryd.func108, Tryd.ntmps108
  go_wp2_with fail
  go_loopw [0, 5, 7] (fun s u i wr => w = wr ∧ ∃ k : Nat, k ≤ n ∧ i = .int .i64 (k : Int) ∧ s = .int .u32 ((rrK x k : Nat) : Int)) (fun _ _ i _ => (n - intOf i).toNat)
  case atStart => exact ⟨rfl, 0, by omega, rfl, rfl⟩
  case round =>
    obtain ⟨rfl, k, hk, rfl, rfl⟩ := hrel
    have hy := rrK_lt hx k
    have hs : rrK x (k + 1) = rr1 (rrK x k) := rfl
    have HS := hide hs
    have HYE := hide (rrK_rl x k (by omega) hx)
    clear hs
    generalize rrK x k = y at *
    have HL := hide (rr1_lt hy)
    have hr : rr1 y = y / 2 + y % 2 * 2147483648 := rfl
    generalize rr1 y = z at *
    have h1 : Int.tmod (y : Int) 2 = ((y % 2 : Nat) : Int) := by rw [Int.tmod_eq_emod_of_nonneg (by omega)]; omega
    have h2 : Int.tdiv (y : Int) 2 = ((y / 2 : Nat) : Int) := by rw [Int.tdiv_eq_ediv_of_nonneg (by omega)]; omega
    have h3 : ((y : Int) % 2) * 2147483648 % 4294967296 = ((y % 2 * 2147483648 : Nat) : Int) := by omega
    have h4 : ((y : Int) / 2 + ((y % 2 * 2147483648 : Nat) : Int)) % 4294967296 = (z : Int) := by omega
    by_cases hlt : k < n
    · have hc : (k : Int) < (n : Int) := by omega
      go_wp2_with fail
      go_roundw
      case rel => exact ⟨trivial, k + 1, by omega, by simp, by rw [unhide HS, hr]; simp⟩
      case measure => simp [intOf]; omega
    · have hc : ¬ (k : Int) < (n : Int) := by omega
      go_wp2_with fail
      go_ret
      obtain rfl : k = n := by omega
      exact ⟨by rw [← unhide HYE]; rfl, rfl⟩

theorem z65 : (Tryd.prog.info? 135).map (·.size) = some 16 := by kernel_rfl
theorem info65 : (Tryd.prog.info? 135).map (·.zero) = some (some (.agg (u32v (List.replicate 16 0)).toArray)) := by kernel_rfl
theorem zero65 (w : World) : (zeroValue 135).run Tryd.prog w = .ok (.agg (u32v (List.replicate 16 0)).toArray) w := by
  have h := info65
  generalize (u32v (List.replicate 16 0)).toArray = Z at *
  cases hq : Tryd.prog.info? 135 with
  | none => simp [hq] at h
  | some i => simp [hq] at h; simp [zeroValue, typeInfo, hq, h]

theorem gset {l : List Nat} {i j x : Nat} (hi : i < l.length) : (l.set i x).getD j 0 = if i = j then x else l.getD j 0 := by
  simp only [List.getD_eq_getElem?_getD, List.getElem?_set]
  split
  · subst_vars; simp [hi]
  · rfl

def St (a b c d : Nat) (w : World) (g : Nat) (l : List Nat) (va vb vc vd : Nat) : Prop := RowAt w g 135 (u32v l) ∧ l.length = 16 ∧ l.getD a 0 = va ∧ l.getD b 0 = vb ∧ l.getD c 0 = vc ∧ l.getD d 0 = vd
theorem St.cell {a b c d : Nat} {w : World} {g : Nat} {l : List Nat} {va vb vc vd : Nat} (h : St a b c d w g l va vb vc vd) (ha : a < 16) (hb : b < 16) (hc : c < 16) (hd : d < 16) :
    w.cell? ⟨g, a, none⟩ = some (.int .u32 (va : Int)) ∧ w.cell? ⟨g, b, none⟩ = some (.int .u32 (vb : Int)) ∧ w.cell? ⟨g, c, none⟩ = some (.int .u32 (vc : Int)) ∧ w.cell? ⟨g, d, none⟩ = some (.int .u32 (vd : Int)) := by
  obtain ⟨h1, h2, rfl, rfl, rfl, rfl⟩ := h
  exact ⟨u32_cell h1 a (by omega), u32_cell h1 b (by omega), u32_cell h1 c (by omega), u32_cell h1 d (by omega)⟩
theorem St.seta {a b c d : Nat} {w : World} {g : Nat} {l : List Nat} {va vb vc vd : Nat} (h : St a b c d w g l va vb vc vd) (ha : a < 16) (hb : b < 16) (hc : c < 16) (hd : d < 16) (hab : ¬ a = b) (hac : ¬ a = c) (had : ¬ a = d) (hbc : ¬ b = c) (hbd : ¬ b = d) (hcd : ¬ c = d) (v : Nat) :
    St a b c d (w.setCell ⟨g, a, none⟩ (.int .u32 (v : Int))).drew g (l.set a v) v vb vc vd := by
  obtain ⟨h1, h2, rfl, rfl, rfl, rfl⟩ := h
  have hr := h1.set a (.int .u32 (v : Int))
  rw [u32v_set] at hr
  refine ⟨hr.drew, by simp [h2], ?_, ?_, ?_, ?_⟩ <;> (rw [gset (by omega)]; first | rw [if_pos rfl] | rw [if_neg (by omega)])
theorem St.setb {a b c d : Nat} {w : World} {g : Nat} {l : List Nat} {va vb vc vd : Nat} (h : St a b c d w g l va vb vc vd) (ha : a < 16) (hb : b < 16) (hc : c < 16) (hd : d < 16) (hab : ¬ a = b) (hac : ¬ a = c) (had : ¬ a = d) (hbc : ¬ b = c) (hbd : ¬ b = d) (hcd : ¬ c = d) (v : Nat) :
    St a b c d (w.setCell ⟨g, b, none⟩ (.int .u32 (v : Int))).drew g (l.set b v) va v vc vd := by
  obtain ⟨h1, h2, rfl, rfl, rfl, rfl⟩ := h
  have hr := h1.set b (.int .u32 (v : Int))
  rw [u32v_set] at hr
  refine ⟨hr.drew, by simp [h2], ?_, ?_, ?_, ?_⟩ <;> (rw [gset (by omega)]; first | rw [if_pos rfl] | rw [if_neg (by omega)])
theorem St.setc {a b c d : Nat} {w : World} {g : Nat} {l : List Nat} {va vb vc vd : Nat} (h : St a b c d w g l va vb vc vd) (ha : a < 16) (hb : b < 16) (hc : c < 16) (hd : d < 16) (hab : ¬ a = b) (hac : ¬ a = c) (had : ¬ a = d) (hbc : ¬ b = c) (hbd : ¬ b = d) (hcd : ¬ c = d) (v : Nat) :
    St a b c d (w.setCell ⟨g, c, none⟩ (.int .u32 (v : Int))).drew g (l.set c v) va vb v vd := by
  obtain ⟨h1, h2, rfl, rfl, rfl, rfl⟩ := h
  have hr := h1.set c (.int .u32 (v : Int))
  rw [u32v_set] at hr
  refine ⟨hr.drew, by simp [h2], ?_, ?_, ?_, ?_⟩ <;> (rw [gset (by omega)]; first | rw [if_pos rfl] | rw [if_neg (by omega)])
theorem St.setd {a b c d : Nat} {w : World} {g : Nat} {l : List Nat} {va vb vc vd : Nat} (h : St a b c d w g l va vb vc vd) (ha : a < 16) (hb : b < 16) (hc : c < 16) (hd : d < 16) (hab : ¬ a = b) (hac : ¬ a = c) (had : ¬ a = d) (hbc : ¬ b = c) (hbd : ¬ b = d) (hcd : ¬ c = d) (v : Nat) :
    St a b c d (w.setCell ⟨g, d, none⟩ (.int .u32 (v : Int))).drew g (l.set d v) va vb vc v := by
  obtain ⟨h1, h2, rfl, rfl, rfl, rfl⟩ := h
  have hr := h1.set d (.int .u32 (v : Int))
  rw [u32v_set] at hr
  refine ⟨hr.drew, by simp [h2], ?_, ?_, ?_, ?_⟩ <;> (rw [gset (by omega)]; first | rw [if_pos rfl] | rw [if_neg (by omega)])
theorem sets8 (a b c d a1 b1 c1 d1 a2 b2 c2 d2 : Nat) (l : List Nat) (hab : ¬ a = b) (hac : ¬ a = c) (had : ¬ a = d) (hbc : ¬ b = c) (hbd : ¬ b = d) (hcd : ¬ c = d) :
    (((((((l.set a a1).set d d1).set c c1).set b b1).set a a2).set d d2).set c c2).set b b2 = (((l.set a a2).set b b2).set c c2).set d d2 := by
  apply List.ext_getElem?
  intro i
  simp only [List.getElem?_set, List.length_set]
  by_cases h1 : a = i <;> by_cases h2 : b = i <;> by_cases h3 : c = i <;> by_cases h4 : d = i <;> first | (exfalso; omega) | simp only [h1, h2, h3, h4, if_true, if_false]
set_option maxRecDepth 100000 in
set_option maxHeartbeats 4000000 in
theorem rstir_any (a b c d x y : Nat) (l : List Nat) (w : World) (hl : l.length = 16) (h32 : W32 l) (hx : x < 4294967296) (hy : y < 4294967296)
    (ha : a < 16) (hb : b < 16) (hc : c < 16) (hd : d < 16) (hab : ¬ a = b) (hac : ¬ a = c) (had : ¬ a = d) (hbc : ¬ b = c) (hbd : ¬ b = d) (hcd : ¬ c = d) :
    Calls Tryd.prog 96 #[.agg (u32v l).toArray, .int .i64 (a : Int), .int .i64 (b : Int), .int .i64 (c : Int), .int .i64 (d : Int), .int .u32 (x : Int), .int .u32 (y : Int)] w
      fun e w' => e = .returned (.agg (u32v (stirL l a b c d x y)).toArray) ∧ Below w.heap.size w w' := by
  have hz := zero65
  generalize hZ : (u32v (List.replicate 16 0)).toArray = Z at hz
  have HZE := hide hZ
  have HZS : Hid (Z.size = 16) := hide (by rw [← hZ]; rfl)
  obtain ⟨L, hL⟩ : ∃ L, (u32v l).toArray = L := ⟨_, rfl⟩
  rw [hL]
  obtain ⟨g, hg⟩ : ∃ g, w.heap.size = g := ⟨_, rfl⟩
  have R0 : RowAt ((w.alloc (.cells L 135)).alloc (.cells Z 135)) g 135 (u32v l) := by
    have := RowAt.new w 135 (u32v l)
    rw [hL, hg] at this
    exact this.only (p := fun _ => False) ((Only.refl _ _).alloc _) id
  have RT : RowAt ((w.alloc (.cells L 135)).alloc (.cells Z 135)) (g + 1) 135 (u32v (List.replicate 16 0)) := by
    have := RowAt.new (w.alloc (.cells L 135)) 135 (u32v (List.replicate 16 0))
    rw [hZ, size_alloc, hg] at this
    exact this
  have B0 : Below w.heap.size w ((w.alloc (.cells L 135)).alloc (.cells Z 135)) := ((Below.refl _ _).alloc (Nat.le_refl _) _).alloc (by rw [size_alloc]; omega) _
  have HLS : Hid (L.size = 16) := hide (by rw [← hL, List.size_toArray, u32v_len, hl])
  have HLO : Hid (L.all (·.oneCell') = true) := hide (hL ▸ one_u32 _)
  have HR := hide R0
  have HRT := hide RT
  have HB := hide B0
  have HL := hide hL
  have HG := hide hg
  clear R0 RT B0 hZ hL
  have ba : (a : Int) < 16 := by omega
  have bb : (b : Int) < 16 := by omega
  have bc : (c : Int) < 16 := by omega
  have bd : (d : Int) < 16 := by omega
  have gA := h32.getD a
  have gB := h32.getD b
  have gC := h32.getD c
  have gD := h32.getD d
  have HE : Hid (stirL l a b c d x y = (((l.set a (stir4 (l.getD a 0) (l.getD b 0) (l.getD c 0) (l.getD d 0) x y).1).set b (stir4 (l.getD a 0) (l.getD b 0) (l.getD c 0) (l.getD d 0) x y).2.1).set c (stir4 (l.getD a 0) (l.getD b 0) (l.getD c 0) (l.getD d 0) x y).2.2.1).set d (stir4 (l.getD a 0) (l.getD b 0) (l.getD c 0) (l.getD d 0) x y).2.2.2) := rfl
  have HS1 : Hid (St a b c d ((w.alloc (.cells L 135)).alloc (.cells Z 135)) g l (l.getD a 0) (l.getD b 0) (l.getD c 0) (l.getD d 0)) := hide ⟨unhide HR, hl, rfl, rfl, rfl, rfl⟩
  generalize l.getD a 0 = va at *
  generalize l.getD b 0 = vb at *
  generalize l.getD c 0 = vc at *
  generalize l.getD d 0 = vd at *
  obtain ⟨a1, e2⟩ : ∃ s, s = add2 va (add2 vb x) := ⟨_, rfl⟩
  have f2 : (((va : Int) + (vb : Int)) % 4294967296 + (x : Int)) % 4294967296 = (a1 : Int) := by subst e2; unfold add2; omega
  have l2 : a1 < 4294967296 := e2 ▸ add2_lt _ _
  have f3 := u32_xor_nat vd a1 gD l2
  have l3 := xor_lt gD l2
  obtain ⟨x1, e3⟩ : ∃ s, s = vd ^^^ a1 := ⟨_, rfl⟩
  rw [← e3] at f3 l3
  obtain ⟨d1, e4⟩ : ∃ s, s = rl x1 16 := ⟨_, rfl⟩
  have l4 : d1 < 4294967296 := e4 ▸ rl_lt _ _ (by decide) l3
  obtain ⟨c1, e5⟩ : ∃ s, s = add2 vc d1 := ⟨_, rfl⟩
  have f5 := add2_int vc d1
  rw [← e5] at f5
  have l5 : c1 < 4294967296 := e5 ▸ add2_lt _ _
  have f6 := u32_xor_nat vb c1 gB l5
  have l6 := xor_lt gB l5
  obtain ⟨x2, e6⟩ : ∃ s, s = vb ^^^ c1 := ⟨_, rfl⟩
  rw [← e6] at f6 l6
  obtain ⟨b1, e7⟩ : ∃ s, s = rl x2 20 := ⟨_, rfl⟩
  have l7 : b1 < 4294967296 := e7 ▸ rl_lt _ _ (by decide) l6
  obtain ⟨a2, e9⟩ : ∃ s, s = add2 a1 (add2 b1 y) := ⟨_, rfl⟩
  have f9 : (((a1 : Int) + (b1 : Int)) % 4294967296 + (y : Int)) % 4294967296 = (a2 : Int) := by subst e9; unfold add2; omega
  have l9 : a2 < 4294967296 := e9 ▸ add2_lt _ _
  have f10 := u32_xor_nat d1 a2 l4 l9
  have l10 := xor_lt l4 l9
  obtain ⟨x3, e10⟩ : ∃ s, s = d1 ^^^ a2 := ⟨_, rfl⟩
  rw [← e10] at f10 l10
  obtain ⟨d2, e11⟩ : ∃ s, s = rl x3 24 := ⟨_, rfl⟩
  have l11 : d2 < 4294967296 := e11 ▸ rl_lt _ _ (by decide) l10
  obtain ⟨c2, e12⟩ : ∃ s, s = add2 c1 d2 := ⟨_, rfl⟩
  have f12 := add2_int c1 d2
  rw [← e12] at f12
  have l12 : c2 < 4294967296 := e12 ▸ add2_lt _ _
  have f13 := u32_xor_nat b1 c2 l7 l12
  have l13 := xor_lt l7 l12
  obtain ⟨x4, e13⟩ : ∃ s, s = b1 ^^^ c2 := ⟨_, rfl⟩
  rw [← e13] at f13 l13
  obtain ⟨b2, e14⟩ : ∃ s, s = rl x4 25 := ⟨_, rfl⟩
  have l14 : b2 < 4294967296 := e14 ▸ rl_lt _ _ (by decide) l13
  have HS : Hid (stir4 va vb vc vd x y = (a2, b2, c2, d2)) := by
    show _ = _
    subst e14 e13 e12 e11 e10 e9 e7 e6 e5 e4 e3 e2
    rfl
  have K1 := hide (p := ∀ w, Calls Tryd.prog 108 #[.int .u32 (x1 : Int), .int .i64 16] w fun e w' => e = .returned (.int .u32 (d1 : Int)) ∧ w = w') (fun w => e4 ▸ right_any x1 16 w l3 (by decide))
  have K2 := hide (p := ∀ w, Calls Tryd.prog 108 #[.int .u32 (x2 : Int), .int .i64 12] w fun e w' => e = .returned (.int .u32 (b1 : Int)) ∧ w = w') (fun w => e7 ▸ right_any x2 12 w l6 (by decide))
  have K3 := hide (p := ∀ w, Calls Tryd.prog 108 #[.int .u32 (x3 : Int), .int .i64 8] w fun e w' => e = .returned (.int .u32 (d2 : Int)) ∧ w = w') (fun w => e11 ▸ right_any x3 8 w l10 (by decide))
  have K4 := hide (p := ∀ w, Calls Tryd.prog 108 #[.int .u32 (x4 : Int), .int .i64 7] w fun e w' => e = .returned (.int .u32 (b2 : Int)) ∧ w = w') (fun w => e14 ▸ right_any x4 7 w l13 (by decide))
  clear e2 e3 e4 e5 e6 e7 e9 e10 e11 e12 e13 e14 l2 l3 l4 l5 l6 l7 l9 l10 l11 l12 l13 l14 gA gB gC gD h32 hx hy
  have HA := hide ha
  have HBb := hide hb
  have HC := hide hc
  have HDd := hide hd
  clear ha hb hc hd
  go_enter Tryd.func96, Tryd.ntmps96
  go_wp2_with fail
  generalize hw1 : (w.alloc (.cells L 135)).alloc (.cells Z 135) = w1 at *
  obtain ⟨ca, cb, cc, cd⟩ := (unhide HS1).cell (unhide HA) (unhide HBb) (unhide HC) (unhide HDd)
  have za := (unhide HS1).1.frozen a
  have HS2 := hide ((unhide HS1).seta (unhide HA) (unhide HBb) (unhide HC) (unhide HDd) hab hac had hbc hbd hcd a1)
  refine wp_region_tail 10 (by kernel_rfl) (by kernel_rfl) ?_
  simp only [List.take_succ_cons, List.take_zero, List.drop_succ_cons, List.drop_zero]
  repeat (go_big_quiet_step (fail))
  refine wpQuiet_nil ?_
  go_wp2_with fail
  have HO2 : Hid (Only (· = g) w1 (w1.setCell ⟨g, a, none⟩ (.int .u32 (a1 : Int))).drew) := hide ((Only.refl (· = g) _).set g a _ rfl |>.drew)
  generalize (w1.setCell ⟨g, a, none⟩ (.int .u32 (a1 : Int))).drew = w2 at *
  clear ca cb cc cd za HS1
  obtain ⟨ca, cb, cc, cd⟩ := (unhide HS2).cell (unhide HA) (unhide HBb) (unhide HC) (unhide HDd)
  have zd := (unhide HS2).1.frozen d
  have HS3 := hide ((unhide HS2).setd (unhide HA) (unhide HBb) (unhide HC) (unhide HDd) hab hac had hbc hbd hcd d1)
  refine wp_region_tail 9 (by kernel_rfl) (by kernel_rfl) ?_
  simp only [List.take_succ_cons, List.take_zero, List.drop_succ_cons, List.drop_zero]
  repeat (go_big_quiet_step ((exact Calls.mono (unhide K1 _) (fun _ _ h => ⟨h.1, h.2.symm⟩) _)))
  refine wpQuiet_nil ?_
  go_wp2_with fail
  have HO3 : Hid (Only (· = g) w1 (w2.setCell ⟨g, d, none⟩ (.int .u32 (d1 : Int))).drew) := hide ((unhide HO2).set g d _ rfl |>.drew)
  generalize (w2.setCell ⟨g, d, none⟩ (.int .u32 (d1 : Int))).drew = w3 at *
  clear ca cb cc cd zd HS2 HO2
  obtain ⟨ca, cb, cc, cd⟩ := (unhide HS3).cell (unhide HA) (unhide HBb) (unhide HC) (unhide HDd)
  have zc := (unhide HS3).1.frozen c
  have HS4 := hide ((unhide HS3).setc (unhide HA) (unhide HBb) (unhide HC) (unhide HDd) hab hac had hbc hbd hcd c1)
  refine wp_region_tail 8 (by kernel_rfl) (by kernel_rfl) ?_
  simp only [List.take_succ_cons, List.take_zero, List.drop_succ_cons, List.drop_zero]
  repeat (go_big_quiet_step (fail))
  refine wpQuiet_nil ?_
  go_wp2_with fail
  have HO4 : Hid (Only (· = g) w1 (w3.setCell ⟨g, c, none⟩ (.int .u32 (c1 : Int))).drew) := hide ((unhide HO3).set g c _ rfl |>.drew)
  generalize (w3.setCell ⟨g, c, none⟩ (.int .u32 (c1 : Int))).drew = w4 at *
  clear ca cb cc cd zc HS3 HO3
  obtain ⟨ca, cb, cc, cd⟩ := (unhide HS4).cell (unhide HA) (unhide HBb) (unhide HC) (unhide HDd)
  have zb := (unhide HS4).1.frozen b
  have HS5 := hide ((unhide HS4).setb (unhide HA) (unhide HBb) (unhide HC) (unhide HDd) hab hac had hbc hbd hcd b1)
  refine wp_region_tail 9 (by kernel_rfl) (by kernel_rfl) ?_
  simp only [List.take_succ_cons, List.take_zero, List.drop_succ_cons, List.drop_zero]
  repeat (go_big_quiet_step ((exact Calls.mono (unhide K2 _) (fun _ _ h => ⟨h.1, h.2.symm⟩) _)))
  refine wpQuiet_nil ?_
  go_wp2_with fail
  have HO5 : Hid (Only (· = g) w1 (w4.setCell ⟨g, b, none⟩ (.int .u32 (b1 : Int))).drew) := hide ((unhide HO4).set g b _ rfl |>.drew)
  generalize (w4.setCell ⟨g, b, none⟩ (.int .u32 (b1 : Int))).drew = w5 at *
  clear ca cb cc cd zb HS4 HO4
  obtain ⟨ca, cb, cc, cd⟩ := (unhide HS5).cell (unhide HA) (unhide HBb) (unhide HC) (unhide HDd)
  have za := (unhide HS5).1.frozen a
  have HS6 := hide ((unhide HS5).seta (unhide HA) (unhide HBb) (unhide HC) (unhide HDd) hab hac had hbc hbd hcd a2)
  refine wp_region_tail 10 (by kernel_rfl) (by kernel_rfl) ?_
  simp only [List.take_succ_cons, List.take_zero, List.drop_succ_cons, List.drop_zero]
  repeat (go_big_quiet_step (fail))
  refine wpQuiet_nil ?_
  go_wp2_with fail
  have HO6 : Hid (Only (· = g) w1 (w5.setCell ⟨g, a, none⟩ (.int .u32 (a2 : Int))).drew) := hide ((unhide HO5).set g a _ rfl |>.drew)
  generalize (w5.setCell ⟨g, a, none⟩ (.int .u32 (a2 : Int))).drew = w6 at *
  clear ca cb cc cd za HS5 HO5
  obtain ⟨ca, cb, cc, cd⟩ := (unhide HS6).cell (unhide HA) (unhide HBb) (unhide HC) (unhide HDd)
  have zd := (unhide HS6).1.frozen d
  have HS7 := hide ((unhide HS6).setd (unhide HA) (unhide HBb) (unhide HC) (unhide HDd) hab hac had hbc hbd hcd d2)
  refine wp_region_tail 9 (by kernel_rfl) (by kernel_rfl) ?_
  simp only [List.take_succ_cons, List.take_zero, List.drop_succ_cons, List.drop_zero]
  repeat (go_big_quiet_step ((exact Calls.mono (unhide K3 _) (fun _ _ h => ⟨h.1, h.2.symm⟩) _)))
  refine wpQuiet_nil ?_
  go_wp2_with fail
  have HO7 : Hid (Only (· = g) w1 (w6.setCell ⟨g, d, none⟩ (.int .u32 (d2 : Int))).drew) := hide ((unhide HO6).set g d _ rfl |>.drew)
  generalize (w6.setCell ⟨g, d, none⟩ (.int .u32 (d2 : Int))).drew = w7 at *
  clear ca cb cc cd zd HS6 HO6
  obtain ⟨ca, cb, cc, cd⟩ := (unhide HS7).cell (unhide HA) (unhide HBb) (unhide HC) (unhide HDd)
  have zc := (unhide HS7).1.frozen c
  have HS8 := hide ((unhide HS7).setc (unhide HA) (unhide HBb) (unhide HC) (unhide HDd) hab hac had hbc hbd hcd c2)
  refine wp_region_tail 8 (by kernel_rfl) (by kernel_rfl) ?_
  simp only [List.take_succ_cons, List.take_zero, List.drop_succ_cons, List.drop_zero]
  repeat (go_big_quiet_step (fail))
  refine wpQuiet_nil ?_
  go_wp2_with fail
  have HO8 : Hid (Only (· = g) w1 (w7.setCell ⟨g, c, none⟩ (.int .u32 (c2 : Int))).drew) := hide ((unhide HO7).set g c _ rfl |>.drew)
  generalize (w7.setCell ⟨g, c, none⟩ (.int .u32 (c2 : Int))).drew = w8 at *
  clear ca cb cc cd zc HS7 HO7
  obtain ⟨ca, cb, cc, cd⟩ := (unhide HS8).cell (unhide HA) (unhide HBb) (unhide HC) (unhide HDd)
  have zb := (unhide HS8).1.frozen b
  have HS9 := hide ((unhide HS8).setb (unhide HA) (unhide HBb) (unhide HC) (unhide HDd) hab hac had hbc hbd hcd b2)
  refine wp_region_tail 9 (by kernel_rfl) (by kernel_rfl) ?_
  simp only [List.take_succ_cons, List.take_zero, List.drop_succ_cons, List.drop_zero]
  repeat (go_big_quiet_step ((exact Calls.mono (unhide K4 _) (fun _ _ h => ⟨h.1, h.2.symm⟩) _)))
  refine wpQuiet_nil ?_
  have HO9 : Hid (Only (· = g) w1 (w8.setCell ⟨g, b, none⟩ (.int .u32 (b2 : Int))).drew) := hide ((unhide HO8).set g b _ rfl |>.drew)
  have hf := (unhide HS9).1
  rw [sets8 a b c d a1 b1 c1 d1 a2 b2 c2 d2 l hab hac had hbc hbd hcd] at hf
  have he := unhide HE
  rw [unhide HS] at he
  rw [← he] at hf
  obtain ⟨E, hE⟩ : ∃ E, (u32v (stirL l a b c d x y)).toArray = E := ⟨_, rfl⟩
  have HE1 := hide (hf.arr hE)
  have HE2 := hide (((unhide HRT).only (unhide HO9) (by omega)).arr (unhide HZE))
  have HES : Hid (E.size = 16) := hide (by rw [← hE, List.size_toArray, u32v_len, stirL_len, hl])
  have HEO : Hid (E.all (·.oneCell') = true) := hide (hE ▸ one_u32 _)
  have HEE := hide hE
  have HB9 := hide ((unhide HB).trans ((unhide HO9).below (unhide HB).size (fun k hk => by have := unhide HG; omega)))
  clear hf he hE HE HS HS9
  go_wp2_with (first
      | (refine wpList_load_row rfl 135 _ rfl g rfl 135 E (0, 0) _ (unhide HE1) Tryd.underlying135 rfl (by rw [z65, unhide HES]) ?_)
      | (refine wpList_store_row rfl 135 _ _ rfl (g + 1) E rfl rfl 135 Z (unhide HE2) (by rw [z65, unhide HES]) (by rw [unhide HES, unhide HZS]) (unhide HEO) ?_))
  refine bodyPost_ret (results_cell_row Tryd.results96 _ _ (g + 1) 135 E (0, 0) _ rfl (setRow_heap _ _ _ _ _ _ (unhide HE2)) Tryd.underlying135 rfl (by rw [z65, unhide HES])) rfl ⟨?_, ?_⟩
  · rw [← unhide HEE]
  · exact Below.trans (unhide HB9) ⟨rfl, rfl, rfl, by simp [World.setRow], fun k hk => setRow_other _ _ _ _ (by have := unhide HG; omega)⟩

end Go.Proofs.YtonkgiiacholeaaDoor
