/- Whether two lists of bytes are the same, as the program asks it. -/
import Derived.Test.YtbnfilhilgjnfaaDoorNew
namespace Go.Proofs.YtbnfilhilgjnfaaDoor
set_option linter.unusedVariables false
set_option linter.unusedSimpArgs false
open Go.ChangeShapes Go.WideShapes Go.ChangeAt Go.RowKit Go.Joins

theorem xor_zero (a b : Nat) : a ^^^ b = 0 ↔ a = b := by
  constructor
  · intro h
    apply Nat.eq_of_testBit_eq
    intro i
    have : (a ^^^ b).testBit i = false := by rw [h]; simp
    rw [Nat.testBit_xor] at this
    cases h1 : a.testBit i <;> cases h2 : b.testBit i <;> simp_all
  · rintro rfl; exact Nat.xor_self a
/-- 'Equal' tells whether they are the same -/
def EqR (w : World) (l m : List Nat) (e : Ending) (w' : World) : Prop := e = .returned (.bool (decide (l = m))) ∧ w = w'
set_option maxRecDepth 100000 in
set_option maxHeartbeats 4000000 in
theorem equal_all (v x : Value) (l m : List Nat) (w : World) (hv : Byt w v l) (hx : Byt w x m) (hl : U8 l) (hm : U8 m) : Calls Tryd.prog 64 #[v, x] w fun e w' => EqR w l m e w' := by
  have HV := hide hv
  have HX := hide hx
  have HL := hide hl
  have HM := hide hm
  obtain ⟨a, c, hve⟩ := byt_shape hv
  obtain ⟨b, d, hxe⟩ := byt_shape hx
  obtain ⟨n, hn⟩ : ∃ n, l.length = n := ⟨_, rfl⟩
  obtain ⟨k, hk⟩ : ∃ n, m.length = n := ⟨_, rfl⟩
  have hn63 : n ≤ 9223372036854775807 := by
    rcases hv with ⟨_, h⟩ | ⟨_, _, _, h1, h2, _⟩
    · rw [← hn, h]; simp
    · unfold maxLen at h2; omega
  have hk63 : k ≤ 9223372036854775807 := by
    rcases hx with ⟨_, h⟩ | ⟨_, _, _, h1, h2, _⟩
    · rw [← hk, h]; simp
    · unfold maxLen at h2; omega
  rw [hn] at hve
  rw [hk] at hxe
  subst hve hxe
  have HN := hide hn
  have HK := hide hk
  clear hv hx hl hm hn hk
  by_cases hnk : n = k
  · subst hnk
    clear hk63
    go_enter Tryd.func64, Tryd.ntmps64
    go_wp2_with fail
    go_loopw [5, 15] (fun s i wr => w = wr ∧ ∃ (u j : Nat), j ≤ n ∧ s = .int .u8 (u : Int) ∧ i = .int .i64 (j : Int) ∧ Hid (u < 256 ∧ (u = 0 ↔ l.take j = m.take j))) (fun _ i _ => (n - intOf i).toNat)
    case atStart => exact ⟨rfl, 0, 0, by omega, rfl, rfl, by omega, by simp⟩
    case round =>
      obtain ⟨rfl, u, j, hj, rfl, rfl, HI⟩ := hrel
      rename World => w
      by_cases hlt : j < n
      · have hjI : (j : Int) < (n : Int) := by omega
        have e1 : j < l.length := by rw [unhide HN]; exact hlt
        have e2 : j < m.length := by rw [unhide HK]; exact hlt
        obtain ⟨ad, hca⟩ : ∃ ad, a = some ad ∧ w.cell? (ad.add j) = some (.int .u8 (l[j] : Int)) := by
          rcases unhide HV with ⟨_, h⟩ | ⟨ad, cap, h1, _, _, h3⟩
          · rw [h] at e1; simp at e1
          · injection h1 with q1 q2 q3
            exact ⟨ad, q1, h3 j _ (List.getElem?_eq_getElem e1)⟩
        obtain ⟨bd, hcb⟩ : ∃ bd, b = some bd ∧ w.cell? (bd.add j) = some (.int .u8 (m[j] : Int)) := by
          rcases unhide HX with ⟨_, h⟩ | ⟨ad, cap, h1, _, _, h3⟩
          · rw [h] at e2; simp at e2
          · injection h1 with q1 q2 q3
            exact ⟨ad, q1, h3 j _ (List.getElem?_eq_getElem e2)⟩
        obtain ⟨rfl, c1⟩ := hca
        obtain ⟨rfl, c2⟩ := hcb
        have g1 := unhide HL _ (List.getElem_mem e1)
        have g2 := unhide HM _ (List.getElem_mem e2)
        have eL := List.take_succ_eq_append_getElem e1
        have eM := List.take_succ_eq_append_getElem e2
        have hlen : (l.take j).length = (m.take j).length := by rw [List.length_take, List.length_take]; omega
        generalize l[j] = x1 at *
        generalize m[j] = x2 at *
        have t1 := u8_xor_nat x1 x2 g1 g2
        have g3 : x1 ^^^ x2 < 256 := Nat.xor_lt_two_pow (n := 8) g1 g2
        have t2 := u8_or_nat u (x1 ^^^ x2) (unhide HI).1 g3
        have HI2 : Hid ((u ||| (x1 ^^^ x2)) < 256 ∧ ((u ||| (x1 ^^^ x2)) = 0 ↔ l.take (j + 1) = m.take (j + 1))) := hide ⟨Nat.or_lt_two_pow (n := 8) (unhide HI).1 g3, by
          rw [Nat.or_eq_zero_iff, xor_zero, eL, eM, (unhide HI).2]
          constructor
          · rintro ⟨h1, h2⟩; rw [h1, h2]
          · intro h
            have := List.append_inj h hlen
            exact ⟨this.1, by simpa using this.2⟩⟩
        generalize x1 ^^^ x2 = x3 at *
        generalize u ||| x3 = x4 at *
        clear e1 e2 g1 g2 eL eM hlen g3
        have HLT := hide hlt
        go_wp2_with fail
        refine ⟨⟨trivial, x4, j + 1, by have := unhide HLT; omega, by go_num, by go_num, HI2⟩, by have := unhide HLT; simp [intOf]; omega⟩
      · have hjI : ¬ (j : Int) < (n : Int) := by omega
        rw [List.take_of_length_le (by rw [unhide HN]; omega), List.take_of_length_le (by rw [unhide HK]; omega)] at HI
        clear hlt
        by_cases hu : u = 0
        · have huI : (u : Int) = 0 := by omega
          have hlm := (unhide HI).2.1 hu
          have hd : decide (l = m) = true := by simp [hlm]
          clear hu hlm
          go_wp2_with fail
          go_ret
          exact ⟨by rw [hd]; try rfl, rfl⟩
        · have huI : ¬ (u : Int) = 0 := by omega
          have hlm : ¬ l = m := fun e => hu ((unhide HI).2.2 e)
          have hd : decide (l = m) = false := by simp [hlm]
          have hbq : ((u : Int) == 0) = false := by simp; exact hu
          clear hlm
          go_wp2_with fail
          go_ret
          exact ⟨by rw [hd]; simp [hbq], rfl⟩
  · have hnI : ¬ (n : Int) = (k : Int) := by omega
    have hd : decide (l = m) = false := by
      simp only [decide_eq_false_iff_not]
      intro e
      apply hnk
      rw [← unhide HN, ← unhide HK, e]
    go_enter Tryd.func64, Tryd.ntmps64
    go_wp2_with fail
    go_ret
    exact ⟨by rw [hd]; try rfl, rfl⟩

theorem strOf_inj {l m : List Nat} (hl : ∀ y ∈ l, y < 256) (hm : ∀ y ∈ m, y < 256) (h : strOf l = strOf m) : l = m := by
  have h1 : l.map UInt8.ofNat = m.map UInt8.ofNat := by
    have := congrArg (fun s : ByteArray => s.data.toList) h
    simpa [strOf] using this
  have back : ∀ (x : List Nat), (∀ y ∈ x, y < 256) → (x.map UInt8.ofNat).map UInt8.toNat = x := by
    intro x hx
    rw [List.map_map]
    conv => rhs; rw [← List.map_id x]
    refine List.map_congr_left fun y hy => ?_
    simp only [Function.comp, id, UInt8.toNat_ofNat']
    have := hx y hy
    omega
  rw [← back l hl, ← back m hm, h1]
theorem strOf_ne {l m : List Nat} (hl : ∀ y ∈ l, y < 256) (hm : ∀ y ∈ m, y < 256) (h : l ≠ m) : ((strOf l).toList == (strOf m).toList) = false := by
  rw [← Go.beq_toListBytes]
  have h2 : strOf l ≠ strOf m := fun e => h (strOf_inj hl hm e)
  have h3 : (strOf l).data ≠ (strOf m).data := fun e => h2 (congrArg ByteArray.mk e)
  show ((strOf l).data == (strOf m).data) = false
  exact beq_eq_false_iff_ne.mpr h3


theorem str_eq (l m : List Nat) (hl : U8 l) (hm : U8 m) : ((strOf l).toList == (strOf m).toList) = decide (l = m) := by
  by_cases h : l = m
  · subst h; simp
  · rw [strOf_ne hl hm h]; simp [h]

end Go.Proofs.YtbnfilhilgjnfaaDoor
