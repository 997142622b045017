/- long: is one of the texts too long? -/
import Derived.Test.YtonabfpgdgnpnaaDoorDOw
namespace Go.Proofs.YtonabfpgdgnpnaaDoor
set_option linter.unusedVariables false
set_option linter.unusedSimpArgs false
open Go.ChangeShapes Go.WideShapes Go.ChangeAt Go.RowKit Go.Joins Go.Deep

def longB (l : List ByteArray) : Bool := l.any (fun s => decide (200 < s.size))
theorem long1 (s : ByteArray) (w : World) : Calls Tryd.prog 28 #[.string s] w fun r w' => r = .returned (.bool (decide (200 < s.size))) ∧ w = w' := by
  by_cases h : 200 < s.size
  · have h' : (200 : Int) < (s.size : Int) := by omega
    rw [show decide (200 < s.size) = true by simp [h]]
    go_enter Tryd.func28, Tryd.ntmps28
    go_wp2_with fail
    go_ret
    exact ⟨by first | rfl | simp [h], rfl⟩
  · have h' : ¬ (200 : Int) < (s.size : Int) := by omega
    rw [show decide (200 < s.size) = false by simp; omega]
    go_enter Tryd.func28, Tryd.ntmps28
    go_wp2_with fail
    go_ret
    exact ⟨by first | rfl | (simp; omega), rfl⟩
set_option maxRecDepth 100000 in
set_option maxHeartbeats 4000000 in
theorem ixf_any (B : Nat) (v : Value) (l : List ByteArray) (w : World) (h : w.ownsRow B 9 1 v l.length (l.map .string)) (hl : l.length ≤ 1099511627776) : Calls Tryd.prog 49 #[v, .func (.func 28) #[] #[]] w fun r w' => (∃ k : Int, r = .returned (.int .i64 k) ∧ -9223372036854775808 ≤ k ∧ k ≤ 9223372036854775807 ∧ decide (0 ≤ k) = longB l) ∧ w = w' := by
  obtain ⟨a, c, rfl, _, _⟩ := own_sl h
  have HR := hide h
  obtain ⟨n, hn⟩ : ∃ n, l.length = n := ⟨_, rfl⟩
  rw [hn] at hl HR ⊢
  have HN := hide hn
  have hnI : (n : Int) ≤ 1099511627776 := by omega
  clear h hn
  go_enter Tryd.func49, Tryd.ntmps49
  go_wp2_with fail
  go_loopw [8] (fun i wr => ∃ k : Nat, k ≤ n ∧ i = .int .i64 (k : Int) ∧ Hid (longB (l.take k) = false) ∧ w = wr) (fun i _ => ((n : Int) - intOf i).toNat)
  case atStart => exact ⟨0, by omega, by simp, hide (by simp [longB]), rfl⟩
  case round =>
    obtain ⟨k, hk, rfl, HT, rfl⟩ := hrel
    by_cases c3 : (k : Int) < (n : Int)
    · obtain ⟨s, hs⟩ : ∃ s, l[k]? = some s := ⟨_, List.getElem?_eq_getElem (by rw [unhide HN]; omega)⟩
      obtain ⟨g1, d1, e1, q1, _, _, _⟩ := own_rd (unhide HR) (i := k) (u := .string s) (by simp [hs])
      injection e1 with e1 _ e3
      subst e1 e3
      have k0 : (0 : Int) ≤ (k : Int) := by omega
      have K := hide (long1 s w)
      have HS := hide hs
      clear hs
      by_cases hb : 200 < s.size
      · rw [show decide (200 < s.size) = true by simp [hb]] at K
        have HB := hide hb
        clear hb
        go_wp2_with fail
        refine Calls.mono (unhide K) ?_
        rintro r w2 ⟨rfl, rfl⟩
        go_wp2_with fail
        go_ret
        refine ⟨⟨(k : Int), rfl, by omega, by omega, ?_⟩, rfl⟩
        have h1 : longB l = true := by
          unfold longB
          rw [List.any_eq_true]
          exact ⟨s, List.mem_of_getElem? (unhide HS), by simp [unhide HB]⟩
        rw [h1]
        simp
      · rw [show decide (200 < s.size) = false by simp; omega] at K
        have HT2 : Hid (longB (l.take (k + 1)) = false) := hide (by
          have h1 := unhide HT
          unfold longB at h1 ⊢
          rw [List.take_add_one, unhide HS, List.any_append, h1]
          simp
          omega)
        clear hb HT
        go_wp2_with fail
        refine Calls.mono (unhide K) ?_
        rintro r w2 ⟨rfl, rfl⟩
        go_wp2_with fail
        exact ⟨⟨k + 1, by omega, by simp, HT2, by trivial⟩, by simp [intOf]; omega⟩
    · obtain rfl : n = k := by omega
      go_wp2_with fail
      go_ret
      refine ⟨⟨-1, rfl, by omega, by omega, ?_⟩, rfl⟩
      have h1 := unhide HT
      rw [List.take_of_length_le (by rw [unhide HN]; exact Nat.le_refl _)] at h1
      rw [h1]
      simp
set_option maxRecDepth 100000 in
set_option maxHeartbeats 4000000 in
theorem long_any (B : Nat) (v : Value) (l : List ByteArray) (w : World) (h : w.ownsRow B 9 1 v l.length (l.map .string)) (hl : l.length ≤ 1099511627776) : Calls Tryd.prog 11 #[v] w fun r w' => r = .returned (.bool (longB l)) ∧ w = w' := by
  have K := hide (ixf_any B v l w h hl)
  have KC : Hid (Calls Tryd.prog 27 #[v, .func (.func 28) #[] #[]] w fun r w' => r = .returned (.bool (longB l)) ∧ w = w') := hide (by
    clear h
    go_enter Tryd.func27, Tryd.ntmps27
    go_wp2_with fail
    refine Calls.mono (unhide K) ?_
    rintro r w1 ⟨⟨k, rfl, h1, h2, h3⟩, rfl⟩
    have H3 := hide h3
    clear h3
    go_wp2_with fail
    go_ret
    exact ⟨by rw [← unhide H3]; rfl, rfl⟩)
  clear h K
  go_enter Tryd.func11, Tryd.ntmps11
  go_wp2_with fail
  refine Calls.mono (unhide KC) ?_
  rintro r w1 ⟨rfl, rfl⟩
  go_wp2_with fail
  go_ret
  exact ⟨rfl, rfl⟩
end Go.Proofs.YtonabfpgdgnpnaaDoor
