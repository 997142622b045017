/- Whether calls may be gone through; what they make of a disk. -/
import Derived.Test.YtadjgljimikodaaDos
namespace Go.Proofs.Ytadjgljimikodaa
set_option linter.unusedVariables false
set_option linter.unusedSimpArgs false
open Go.ChangeShapes Go.WideShapes Go.ChangeAt Go.RowKit

def capS (L : List Cl) (k : Nat) : Nat := ((L.take k).map fun c => min c.b.length 16385).sum
def total (L : List Cl) : Nat := (L.map fun c => c.b.length).sum
theorem capS_next {L : List Cl} {k : Nat} {c : Cl} (h : L[k]? = some c) : capS L (k + 1) = capS L k + min c.b.length 16385 := by
  have hk := (List.getElem?_eq_some_iff.1 h).1
  have e := (List.getElem?_eq_some_iff.1 h).2
  rw [capS, List.take_succ_eq_append_getElem hk, List.map_append, List.sum_append, e]
  simp [capS]
theorem total_of_cap : ∀ (L : List Cl), (L.map fun c => min c.b.length 16385).sum ≤ 16384 → total L ≤ 16384 ∧ total L = (L.map fun c => min c.b.length 16385).sum := by
  intro L
  induction L with
  | nil => intro _; simp [total]
  | cons c L ih =>
    intro h
    simp only [List.map_cons, List.sum_cons] at h
    have := ih (by omega)
    simp only [total, List.map_cons, List.sum_cons] at this ⊢
    omega

def ShortR (L : List Cl) (e : Ending) : Prop := ∃ r, e = .returned (.bool r) ∧ (r = true → L.length ≤ 200 ∧ total L ≤ 16384)
set_option maxHeartbeats 1000000 in
theorem short_any (a : Option Addr) (L : List Cl) (cap : Nat) (w : World) (h : Dos w a L) (hc : L.length ≤ cap) (hm : cap ≤ maxLen) :
    Calls Try.prog 11 #[.slice a L.length cap] w fun e w' => ShortR L e ∧ w = w' := by
  unfold maxLen at hm
  have H0 := hide h
  clear h
  obtain ⟨n, hn⟩ : ∃ n, L.length = n := ⟨_, rfl⟩
  rw [hn] at hc
  rw [hn]
  have HN := hide hn
  clear hn
  go_enter Try.func11, Try.ntmps11
  go_wp2_with fail
  go_loop [3, 4] (fun s i => ∃ k : Nat, k ≤ n ∧ k ≤ 201 ∧ i = .int .i64 k ∧ s = .int .i64 (capS L k : Int) ∧ capS L k ≤ 32769) (fun _ i => n - (intOf i).toNat)
  case atStart => exact ⟨0, by omega, by omega, rfl, by simp [capS], by simp [capS]⟩
  case round =>
    obtain ⟨k, hk, hk2, rfl, rfl, hle⟩ := hrel
    by_cases g1 : k < n
    · have i1 : (k : Int) < (n : Int) := by omega
      by_cases g2 : k ≤ 200
      · have i2 : (k : Int) ≤ 200 := by omega
        by_cases g3 : capS L k ≤ 16384
        · have i3 : (capS L k : Int) ≤ 16384 := by omega
          obtain ⟨c, hc1⟩ : ∃ c, L[k]? = some c := ⟨_, List.getElem?_eq_getElem (by rw [unhide HN]; exact g1)⟩
          have hD := unhide H0
          rcases hD.2 with h0 | ⟨b, off, rfl, hlt, hx⟩
          · rw [h0] at hc1; simp at hc1
          obtain ⟨q0, q1, q2, q3⟩ := hx k c hc1
          obtain ⟨a1, cap1, hv⟩ := byt_shape (hD.1 c (List.mem_of_getElem? hc1)).byt
          rw [hv] at q3
          have hnx := capS_next hc1
          have HNX := hide hnx
          clear hnx hx hD hv hc1
          generalize hcl : c.b.length = cl at *
          generalize hcs : capS L k = cs at *
          have i0 : (0 : Int) ≤ (k : Int) := by omega
          have hmin : min (cl : Int) 16385 = ((min cl 16385 : Nat) : Int) := by omega
          have hml : min cl 16385 ≤ 16385 := by omega
          generalize hmn : min cl 16385 = mn at *
          go_wp2
          go_round
          case rel =>
            refine ⟨k + 1, by omega, by omega, by go_num, ?_, by rw [unhide HNX]; omega⟩
            rw [unhide HNX]
            congr 1
            split <;> omega
          case measure => simp [intOf]; omega
        · have i3 : decide ((capS L k : Int) ≤ 16384) = false := by simp; omega
          by_cases g4 : n ≤ 200
          · have j1 : (n : Int) ≤ 200 := by omega
            generalize hcs : capS L k = cs at *
            go_wp2
            go_ret
            exact ⟨⟨false, rfl, fun hr => by cases hr⟩, rfl⟩
          · have j1 : decide ((n : Int) ≤ 200) = false := by simp; omega
            generalize hcs : capS L k = cs at *
            go_wp2
            go_ret
            exact ⟨⟨false, rfl, fun hr => by cases hr⟩, rfl⟩
      · have i2 : decide ((k : Int) ≤ 200) = false := by simp; omega
        have j1 : decide ((n : Int) ≤ 200) = false := by simp; omega
        generalize hcs : capS L k = cs at *
        go_wp2
        go_ret
        exact ⟨⟨false, rfl, fun hr => by cases hr⟩, rfl⟩
    · obtain rfl : k = n := by omega
      by_cases g4 : k ≤ 200
      · by_cases g5 : capS L k ≤ 16384
        · have j1 : (k : Int) ≤ 200 := by omega
          have j2 : (capS L k : Int) ≤ 16384 := by omega
          generalize hcs : capS L k = cs at *
          go_wp2
          go_ret
          refine ⟨⟨true, rfl, fun _ => ⟨by rw [unhide HN]; omega, ?_⟩⟩, rfl⟩
          have hkn : k = L.length := by rw [unhide HN]
          rw [capS, hkn, List.take_length] at hcs
          exact (total_of_cap L (by omega)).1
        · have j1 : (k : Int) ≤ 200 := by omega
          have j2 : decide ((capS L k : Int) ≤ 16384) = false := by simp; omega
          generalize hcs : capS L k = cs at *
          go_wp2
          go_ret
          exact ⟨⟨false, rfl, fun hr => by cases hr⟩, rfl⟩
      · have j1 : decide ((k : Int) ≤ 200) = false := by simp; omega
        generalize hcs : capS L k = cs at *
        go_wp2
        go_ret
        exact ⟨⟨false, rfl, fun hr => by cases hr⟩, rfl⟩
end Go.Proofs.Ytadjgljimikodaa
