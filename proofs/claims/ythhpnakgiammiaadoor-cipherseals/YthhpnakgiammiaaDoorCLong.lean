/- Whether bytes are too many for the cipher's laws. -/
import Derived.Test.YthhpnakgiammiaaDoorCOpen
namespace Go.Proofs.YthhpnakgiammiaaDoor
set_option linter.unusedVariables false
set_option linter.unusedSimpArgs false
open Go.ChangeShapes Go.WideShapes Go.ChangeAt Go.RowKit Go.Joins

set_option maxHeartbeats 1000000 in
theorem lit_any (a : Option Addr) (n c : Nat) (w : World) : Calls Tryd.prog 32 #[.slice a n c] w fun e w' => e = .returned (.bool (decide (4096 < n))) ∧ w = w' := by
  by_cases h : 4096 < n
  · have h1 : (4096 : Int) < (n : Int) := by omega
    go_enter Tryd.func32, Tryd.ntmps32
    go_wp2_with fail
    go_ret
    exact ⟨by simp [h], rfl⟩
  · have h1 : ¬ (4096 : Int) < (n : Int) := by omega
    go_enter Tryd.func32, Tryd.ntmps32
    go_wp2_with fail
    go_ret
    exact ⟨by simp [h], rfl⟩

def LongC (w : World) (P : List (Value × List Nat)) (e : Ending) (w' : World) : Prop := ∃ b, e = .returned (.bool b) ∧ (b = false → ∀ x ∈ P, x.2.length ≤ 4096) ∧ w = w'
set_option maxRecDepth 100000 in
set_option maxHeartbeats 4000000 in
theorem index_any (P : List (Value × List Nat)) (v : Value) (w : World) (hv : LL w v P) (hP : P.length ≤ 1000000) :
    Calls Tryd.prog 50 #[v, .func (.func 32) #[] #[]] w fun e w' => (∃ k : Nat, k ≤ 1000000 ∧ e = .returned (.int .i64 (k : Int)) ∧ w = w') ∨ (e = .returned (.int .i64 (-1)) ∧ (∀ x ∈ P, x.2.length ≤ 4096) ∧ w = w') := by
  have HV := hide hv
  obtain ⟨a, cap, rfl, hcap, _⟩ := hv
  obtain ⟨N, hN⟩ : ∃ N, P.length = N := ⟨_, rfl⟩
  rw [hN] at hP ⊢
  have HNN := hide hN
  clear hcap hN
  go_enter Tryd.func50, Tryd.ntmps50
  go_wp2_with fail
  go_loopw [8] (fun i wr => w = wr ∧ ∃ k : Nat, k ≤ N ∧ i = .int .i64 (k : Int) ∧ Hid (∀ x ∈ P.take k, x.2.length ≤ 4096)) (fun i _ => (N - intOf i).toNat)
  case atStart => exact ⟨rfl, 0, by omega, rfl, fun x hx => by simp at hx⟩
  case round =>
    obtain ⟨rfl, k, hk, rfl, HI⟩ := hrel
    rename World => w
    by_cases hlt : k < N
    · have hkN : (k : Int) < (N : Int) := by omega
      have hkP : k < P.length := by rw [unhide HNN]; exact hlt
      obtain ⟨⟨u, l⟩, hul⟩ : ∃ x, P[k]? = some x := ⟨_, List.getElem?_eq_getElem hkP⟩
      obtain ⟨a', cap', hav, _, hq⟩ := unhide HV
      obtain ⟨rfl, _, rfl⟩ : a = a' ∧ _ ∧ cap = cap' := by injection hav with h1 h2 h3; exact ⟨h1, h2, h3⟩
      obtain ⟨⟨b, rfl, hc⟩, hby⟩ := hq k u l hul
      obtain ⟨au, cu, hu⟩ := byt_shape hby
      obtain ⟨L, hL⟩ : ∃ L, l.length = L := ⟨_, rfl⟩
      rw [hL] at hu
      subst hu
      have HLI := hide (lit_any au L cu w)
      have HNX : Hid (L ≤ 4096 → ∀ x ∈ P.take (k + 1), x.2.length ≤ 4096) := hide (fun hle x hx => by
        rw [List.take_succ_eq_append_getElem hkP, List.mem_append, List.mem_singleton] at hx
        rcases hx with hx | hx
        · exact unhide HI x hx
        · have : P[k] = (Value.slice au L cu, l) := by
            have := hul
            rw [List.getElem?_eq_getElem hkP] at this
            exact Option.some.inj this
          rw [hx, this, hL]; exact hle)
      have HLT := hide hlt
      clear hby hul hq hL hkP hav HV
      go_wp2_with fail
      refine Calls.mono (unhide HLI) ?_
      rintro e wx ⟨rfl, rfl⟩
      by_cases hbig : 4096 < L
      · rw [decide_eq_true hbig]
        clear hbig
        go_wp2_with fail
        go_ret
        exact .inl ⟨k, by omega, rfl, rfl⟩
      · rw [decide_eq_false hbig]
        have HN2 := hide (unhide HNX (by omega))
        clear hbig
        go_wp2_with fail
        go_roundw
        case rel => exact ⟨trivial, k + 1, by have := unhide HLT; omega, by go_num, HN2⟩
        case measure => have := unhide HLT; simp [intOf]; omega
    · have hkN : ¬ (k : Int) < (N : Int) := by omega
      have hPk : P.take k = P := List.take_of_length_le (by rw [unhide HNN]; omega)
      rw [hPk] at HI
      clear hlt hPk
      go_wp2_with fail
      go_ret
      first | exact .inr ⟨rfl, unhide HI, rfl⟩ | exact .inr ⟨rfl, fun a b hab => unhide HI (a, b) hab, rfl⟩
set_option maxHeartbeats 1000000 in
theorem contains_any (P : List (Value × List Nat)) (v : Value) (w : World) (hv : LL w v P) (hP : P.length ≤ 1000000) :
    Calls Tryd.prog 31 #[v, .func (.func 32) #[] #[]] w fun e w' => LongC w P e w' := by
  have HX := hide (index_any P v w hv hP)
  clear hv hP
  go_enter Tryd.func31, Tryd.ntmps31
  go_wp2_with fail
  refine Calls.mono (unhide HX) ?_
  rintro e wx (⟨k, hk, rfl, rfl⟩ | ⟨rfl, hall, rfl⟩)
  · have h0 : (0 : Int) ≤ (k : Int) := by omega
    go_wp2_with fail
    go_ret
    exact ⟨true, by first | rfl | simp, fun h => (by cases h), rfl⟩
  · have HA := hide hall
    clear hall
    go_wp2_with fail
    go_ret
    exact ⟨_, rfl, fun _ => unhide HA, rfl⟩
set_option maxHeartbeats 1000000 in
theorem clong_any (P : List (Value × List Nat)) (v : Value) (w : World) (hv : LL w v P) (hP : P.length ≤ 1000000) :
    Calls Tryd.prog 9 #[v] w fun e w' => LongC w P e w' := by
  have HX := hide (contains_any P v w hv hP)
  clear hv hP
  go_enter Tryd.func9, Tryd.ntmps9
  go_wp2_with fail
  refine Calls.mono (unhide HX) ?_
  rintro e wx ⟨b, rfl, hb, rfl⟩
  have HB := hide hb
  clear hb
  go_wp2_with fail
  go_ret
  exact ⟨b, rfl, unhide HB, rfl⟩
end Go.Proofs.YthhpnakgiammiaaDoor
