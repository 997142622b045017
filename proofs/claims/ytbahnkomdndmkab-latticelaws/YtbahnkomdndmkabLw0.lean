/- Joins and meets of a few labels: plain mathematics. -/
import Derived.Test.YtbahnkomdndmkabMath
namespace Go.Proofs.Ytbahnkomdndmkab
set_option linter.unusedVariables false
set_option linter.unusedSimpArgs false
open Go.RowKit

def mx (a b : Int) : Int := if a < b then b else a
def mn (a b : Int) : Int := if b < a then b else a
def oc (a b : Int) : Int := bits .or .u32 a b
def ac (a b : Int) : Int := bits .and .u32 a b
theorem mx_comm (a b : Int) : mx a b = mx b a := by unfold mx; split <;> split <;> omega
theorem mn_comm (a b : Int) : mn a b = mn b a := by unfold mn; split <;> split <;> omega
theorem mx_assoc (a b c : Int) : mx (mx a b) c = mx a (mx b c) := by unfold mx; repeat' split <;> omega
theorem mn_assoc (a b c : Int) : mn (mn a b) c = mn a (mn b c) := by unfold mn; repeat' split <;> omega
theorem mx_self (a : Int) : mx a a = a := by unfold mx; split <;> omega
theorem mn_self (a : Int) : mn a a = a := by unfold mn; split <;> omega
theorem mx_mn (a b : Int) : mx a (mn a b) = a := by unfold mx mn; repeat' split <;> omega
theorem mn_mx (a b : Int) : mn a (mx a b) = a := by unfold mx mn; repeat' split <;> omega
theorem oc_nat {a b : Int} (ha : U32 a) (hb : U32 b) : oc a b = ((a.toNat ||| b.toNat : Nat) : Int) := by
  obtain ⟨a0, a1⟩ := ha
  obtain ⟨b0, b1⟩ := hb
  exact u32_or a b a0 a1 b0 b1
theorem ac_nat {a b : Int} (ha : U32 a) (hb : U32 b) : ac a b = ((a.toNat &&& b.toNat : Nat) : Int) := by
  obtain ⟨a0, a1⟩ := ha
  obtain ⟨b0, b1⟩ := hb
  exact u32_and a b a0 a1 b0 b1
theorem oc_u {a b : Int} (ha : U32 a) (hb : U32 b) : U32 (oc a b) := by
  rw [oc_nat ha hb]
  obtain ⟨a0, a1⟩ := ha
  obtain ⟨b0, b1⟩ := hb
  have : a.toNat ||| b.toNat < 2 ^ 32 := Nat.or_lt_two_pow (by omega) (by omega)
  exact ⟨by omega, by omega⟩
theorem ac_u {a b : Int} (ha : U32 a) (hb : U32 b) : U32 (ac a b) := by
  rw [ac_nat ha hb]
  obtain ⟨a0, a1⟩ := ha
  obtain ⟨b0, b1⟩ := hb
  have : a.toNat &&& b.toNat < 2 ^ 32 := Nat.and_lt_two_pow _ (by omega)
  exact ⟨by omega, by omega⟩
theorem oc_comm {a b : Int} (ha : U32 a) (hb : U32 b) : oc a b = oc b a := by rw [oc_nat ha hb, oc_nat hb ha, Nat.or_comm]
theorem ac_comm {a b : Int} (ha : U32 a) (hb : U32 b) : ac a b = ac b a := by rw [ac_nat ha hb, ac_nat hb ha, Nat.and_comm]
theorem oc_assoc {a b c : Int} (ha : U32 a) (hb : U32 b) (hc : U32 c) : oc (oc a b) c = oc a (oc b c) := by
  rw [oc_nat (oc_u ha hb) hc, oc_nat ha (oc_u hb hc), oc_nat ha hb, oc_nat hb hc, Int.toNat_natCast, Int.toNat_natCast, Nat.or_assoc]
theorem ac_assoc {a b c : Int} (ha : U32 a) (hb : U32 b) (hc : U32 c) : ac (ac a b) c = ac a (ac b c) := by
  rw [ac_nat (ac_u ha hb) hc, ac_nat ha (ac_u hb hc), ac_nat ha hb, ac_nat hb hc, Int.toNat_natCast, Int.toNat_natCast, Nat.and_assoc]
theorem u_toNat {a : Int} (ha : U32 a) : ((a.toNat : Nat) : Int) = a := by obtain ⟨a0, a1⟩ := ha; omega
theorem oc_self {a : Int} (ha : U32 a) : oc a a = a := by rw [oc_nat ha ha, Nat.or_self, u_toNat ha]
theorem ac_self {a : Int} (ha : U32 a) : ac a a = a := by rw [ac_nat ha ha, Nat.and_self, u_toNat ha]
theorem oc_ac {a b : Int} (ha : U32 a) (hb : U32 b) : oc a (ac a b) = a := by
  rw [oc_nat ha (ac_u ha hb), ac_nat ha hb, Int.toNat_natCast]
  have : a.toNat ||| (a.toNat &&& b.toNat) = a.toNat := by
    apply Nat.eq_of_testBit_eq
    intro i
    rw [Nat.testBit_or, Nat.testBit_and]
    cases a.toNat.testBit i <;> simp
  rw [this, u_toNat ha]
theorem ac_oc {a b : Int} (ha : U32 a) (hb : U32 b) : ac a (oc a b) = a := by
  rw [ac_nat ha (oc_u ha hb), oc_nat ha hb, Int.toNat_natCast]
  have : a.toNat &&& (a.toNat ||| b.toNat) = a.toNat := by
    apply Nat.eq_of_testBit_eq
    intro i
    rw [Nat.testBit_and, Nat.testBit_or]
    cases a.toNat.testBit i <;> simp
  rw [this, u_toNat ha]
theorem mx_four (a b : Int) : mx (mx (mx a b) a) b = mx a b := by unfold mx; repeat' split <;> omega
theorem mn_three (a b : Int) : mn (mn a b) a = mn a b := by unfold mn; repeat' split <;> omega
theorem oc_four {a b : Int} (ha : U32 a) (hb : U32 b) : oc (oc (oc a b) a) b = oc a b := by
  rw [oc_comm (oc_u ha hb) ha, ← oc_assoc ha ha hb, oc_self ha, oc_assoc ha hb hb, oc_self hb]
theorem ac_three {a b : Int} (ha : U32 a) (hb : U32 b) : ac (ac a b) a = ac a b := by
  rw [ac_comm (ac_u ha hb) ha, ← ac_assoc ha ha hb, ac_self ha]
end Go.Proofs.Ytbahnkomdndmkab
