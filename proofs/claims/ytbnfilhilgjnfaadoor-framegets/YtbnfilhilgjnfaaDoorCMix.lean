/- All rounds of the cipher. -/
import Derived.Test.YtbnfilhilgjnfaaDoorQuarter
import Derived.Deep.WholeRow
namespace Go.Proofs.YtbnfilhilgjnfaaDoor
set_option linter.unusedVariables false
set_option linter.unusedSimpArgs false
open Go.ChangeShapes Go.WideShapes Go.ChangeAt Go.RowKit

def cdowns (l : List Nat) : Nat → List Nat
  | 0 => l
  | k + 1 => quartL (cdowns l k) k (4 + k) (8 + k) (12 + k)
def cacross (l : List Nat) : Nat → List Nat
  | 0 => l
  | k + 1 => quartL (cacross l k) k (4 + (k + 1) % 4) (8 + (k + 2) % 4) (12 + (k + 3) % 4)
def cmixL : Nat → List Nat → List Nat
  | 0, l => l
  | k + 1, l => cacross (cdowns (cmixL k l) 4) 4
theorem cdowns_len (l : List Nat) : ∀ k, (cdowns l k).length = l.length
  | 0 => rfl
  | k + 1 => by rw [cdowns, quartL_len, cdowns_len]
theorem cacross_len (l : List Nat) : ∀ k, (cacross l k).length = l.length
  | 0 => rfl
  | k + 1 => by rw [cacross, quartL_len, cacross_len]
theorem cmixL_len (l : List Nat) : ∀ k, (cmixL k l).length = l.length
  | 0 => rfl
  | k + 1 => by rw [cmixL, cacross_len, cdowns_len, cmixL_len]
theorem cdowns_32 {l : List Nat} (h : W32 l) : ∀ k, W32 (cdowns l k)
  | 0 => h
  | k + 1 => quartL_32 (cdowns_32 h k) _ _ _ _
theorem cacross_32 {l : List Nat} (h : W32 l) : ∀ k, W32 (cacross l k)
  | 0 => h
  | k + 1 => quartL_32 (cacross_32 h k) _ _ _ _
theorem cmixL_32 {l : List Nat} (h : W32 l) : ∀ k, W32 (cmixL k l)
  | 0 => h
  | k + 1 => cacross_32 (cdowns_32 (cmixL_32 h k) 4) 4

set_option maxRecDepth 100000 in
set_option maxHeartbeats 4000000 in
theorem cmix_any (g : Nat) (l : List Nat) (w : World) (hl : l.length = 16) (h32 : W32 l) (hr : RowAt w g 112 (u32v l)) :
    Calls Tryd.prog 88 #[.pointer (some ⟨g, 0, none⟩)] w
      fun e w' => e = .returned (.tuple #[]) ∧ RowAt w' g 112 (u32v (cmixL 10 l)) ∧ Only (· = g) w w' := by
  have HR := hide hr
  clear hr
  go_enter Tryd.func88, Tryd.ntmps88
  go_wp2_with fail
  go_loopw [4] (fun s wr => ∃ k : Nat, k ≤ 10 ∧ s = .int .i64 (k : Int) ∧ Hid (RowAt wr g 112 (u32v (cmixL k l)) ∧ Only (· = g) w wr)) (fun s _ => (10 - intOf s).toNat)
  case atStart => exact ⟨0, by omega, rfl, unhide HR, Only.refl _ _⟩
  case round =>
    obtain ⟨k, hk, rfl, HB⟩ := hrel
    by_cases hlt : k < 10
    · have hk10 : (k : Int) < 10 := by omega
      obtain ⟨lk, hlk⟩ : ∃ x, cmixL k l = x := ⟨_, rfl⟩
      have HE : Hid (cmixL (k + 1) l = cacross (cdowns lk 4) 4) := hide (by rw [cmixL, hlk])
      have HL : Hid (lk.length = 16) := hide (by rw [← hlk, cmixL_len, hl])
      have HL32 : Hid (W32 lk) := hide (hlk ▸ cmixL_32 h32 k)
      rw [hlk] at HB
      have HLT := hide hlt
      clear hlk
      go_wp2_with fail
      go_loopw [6] (fun s wr => ∃ j : Nat, j ≤ 4 ∧ s = .int .i64 (j : Int) ∧ Hid (RowAt wr g 112 (u32v (cdowns lk j)) ∧ Only (· = g) w wr)) (fun s _ => (4 - intOf s).toNat)
      case atStart => exact ⟨0, by omega, rfl, HB⟩
      case round =>
        obtain ⟨j, hj, rfl, HC⟩ := hrel
        by_cases hlt4 : j < 4
        · have HST := hide (quarter_any g j (4 + j) (8 + j) (12 + j) (cdowns lk j) _ (by rw [cdowns_len, unhide HL]) (cdowns_32 (unhide HL32) j) (unhide HC).1
            (by omega) (by omega) (by omega) (by omega) (by omega) (by omega) (by omega) (by omega) (by omega) (by omega))
          have HEE : Hid (cdowns lk (j + 1) = quartL (cdowns lk j) j (4 + j) (8 + j) (12 + j)) := hide rfl
          have hj4 : (j : Int) < 4 := by omega
          have hcase : j = 0 ∨ j = 1 ∨ j = 2 ∨ j = 3 := by omega
          clear hlt hj hlt4
          rcases hcase with rfl | rfl | rfl | rfl
          · go_wp2_with fail
            refine Calls.mono (unhide HST) ?_
            rintro e w3 ⟨rfl, hrow, honly⟩
            rw [← unhide HEE] at hrow
            have HD : Hid (RowAt w3 g 112 (u32v (cdowns lk 1)) ∧ Only (· = g) w w3) := hide ⟨hrow, (unhide HC).2.trans honly⟩
            clear hrow honly HST HEE
            go_wp2_with fail
            go_roundw
            case rel => exact ⟨1, by omega, by go_num, HD⟩
            case measure => first | (simp [intOf]; done) | (simp [intOf]; omega)
          · go_wp2_with fail
            refine Calls.mono (unhide HST) ?_
            rintro e w3 ⟨rfl, hrow, honly⟩
            rw [← unhide HEE] at hrow
            have HD : Hid (RowAt w3 g 112 (u32v (cdowns lk 2)) ∧ Only (· = g) w w3) := hide ⟨hrow, (unhide HC).2.trans honly⟩
            clear hrow honly HST HEE
            go_wp2_with fail
            go_roundw
            case rel => exact ⟨2, by omega, by go_num, HD⟩
            case measure => first | (simp [intOf]; done) | (simp [intOf]; omega)
          · go_wp2_with fail
            refine Calls.mono (unhide HST) ?_
            rintro e w3 ⟨rfl, hrow, honly⟩
            rw [← unhide HEE] at hrow
            have HD : Hid (RowAt w3 g 112 (u32v (cdowns lk 3)) ∧ Only (· = g) w w3) := hide ⟨hrow, (unhide HC).2.trans honly⟩
            clear hrow honly HST HEE
            go_wp2_with fail
            go_roundw
            case rel => exact ⟨3, by omega, by go_num, HD⟩
            case measure => first | (simp [intOf]; done) | (simp [intOf]; omega)
          · go_wp2_with fail
            refine Calls.mono (unhide HST) ?_
            rintro e w3 ⟨rfl, hrow, honly⟩
            rw [← unhide HEE] at hrow
            have HD : Hid (RowAt w3 g 112 (u32v (cdowns lk 4)) ∧ Only (· = g) w w3) := hide ⟨hrow, (unhide HC).2.trans honly⟩
            clear hrow honly HST HEE
            go_wp2_with fail
            go_roundw
            case rel => exact ⟨4, by omega, by go_num, HD⟩
            case measure => first | (simp [intOf]; done) | (simp [intOf]; omega)
        · have hj4 : j = 4 := by omega
          have hnn : ¬ (j : Int) < 4 := by omega
          rw [hj4] at HC
          clear hj4 hj hlt4
          obtain ⟨lj, hlj⟩ : ∃ x, cdowns lk 4 = x := ⟨_, rfl⟩
          have HL' : Hid (lj.length = 16) := hide (by rw [← hlj, cdowns_len, unhide HL])
          have HL32' : Hid (W32 lj) := hide (hlj ▸ cdowns_32 (unhide HL32) 4)
          rw [hlj] at HC HE
          clear hlj HL HL32
          go_wp2_with fail
          go_loopw [19] (fun s wr => ∃ j : Nat, j ≤ 4 ∧ s = .int .i64 (j : Int) ∧ Hid (RowAt wr g 112 (u32v (cacross lj j)) ∧ Only (· = g) w wr)) (fun s _ => (4 - intOf s).toNat)
          case atStart => exact ⟨0, by omega, rfl, HC⟩
          case round =>
            obtain ⟨j, hj, rfl, HC⟩ := hrel
            by_cases hlt4 : j < 4
            · have HST := hide (quarter_any g j (4 + (j + 1) % 4) (8 + (j + 2) % 4) (12 + (j + 3) % 4) (cacross lj j) _ (by rw [cacross_len, unhide HL']) (cacross_32 (unhide HL32') j) (unhide HC).1
                (by omega) (by omega) (by omega) (by omega) (by omega) (by omega) (by omega) (by omega) (by omega) (by omega))
              have HEE : Hid (cacross lj (j + 1) = quartL (cacross lj j) j (4 + (j + 1) % 4) (8 + (j + 2) % 4) (12 + (j + 3) % 4)) := hide rfl
              have hj4 : (j : Int) < 4 := by omega
              have hcase : j = 0 ∨ j = 1 ∨ j = 2 ∨ j = 3 := by omega
              clear hlt hj hlt4
              rcases hcase with rfl | rfl | rfl | rfl
              · go_wp2_with fail
                refine Calls.mono (unhide HST) ?_
                rintro e w3 ⟨rfl, hrow, honly⟩
                rw [← unhide HEE] at hrow
                have HD : Hid (RowAt w3 g 112 (u32v (cacross lj 1)) ∧ Only (· = g) w w3) := hide ⟨hrow, (unhide HC).2.trans honly⟩
                clear hrow honly HST HEE
                go_wp2_with fail
                go_roundw
                case rel => exact ⟨1, by omega, by go_num, HD⟩
                case measure => first | (simp [intOf]; done) | (simp [intOf]; omega)
              · go_wp2_with fail
                refine Calls.mono (unhide HST) ?_
                rintro e w3 ⟨rfl, hrow, honly⟩
                rw [← unhide HEE] at hrow
                have HD : Hid (RowAt w3 g 112 (u32v (cacross lj 2)) ∧ Only (· = g) w w3) := hide ⟨hrow, (unhide HC).2.trans honly⟩
                clear hrow honly HST HEE
                go_wp2_with fail
                go_roundw
                case rel => exact ⟨2, by omega, by go_num, HD⟩
                case measure => first | (simp [intOf]; done) | (simp [intOf]; omega)
              · go_wp2_with fail
                refine Calls.mono (unhide HST) ?_
                rintro e w3 ⟨rfl, hrow, honly⟩
                rw [← unhide HEE] at hrow
                have HD : Hid (RowAt w3 g 112 (u32v (cacross lj 3)) ∧ Only (· = g) w w3) := hide ⟨hrow, (unhide HC).2.trans honly⟩
                clear hrow honly HST HEE
                go_wp2_with fail
                go_roundw
                case rel => exact ⟨3, by omega, by go_num, HD⟩
                case measure => first | (simp [intOf]; done) | (simp [intOf]; omega)
              · go_wp2_with fail
                refine Calls.mono (unhide HST) ?_
                rintro e w3 ⟨rfl, hrow, honly⟩
                rw [← unhide HEE] at hrow
                have HD : Hid (RowAt w3 g 112 (u32v (cacross lj 4)) ∧ Only (· = g) w w3) := hide ⟨hrow, (unhide HC).2.trans honly⟩
                clear hrow honly HST HEE
                go_wp2_with fail
                go_roundw
                case rel => exact ⟨4, by omega, by go_num, HD⟩
                case measure => first | (simp [intOf]; done) | (simp [intOf]; omega)
            · have hj4 : j = 4 := by omega
              have hnn : ¬ (j : Int) < 4 := by omega
              rw [hj4] at HC
              clear hj4 hj hlt4
              go_wp2_with fail
              go_roundw
              case rel => exact ⟨k + 1, by have := unhide HLT; omega, by go_num, by rw [unhide HE]; exact (unhide HC).1, (unhide HC).2⟩
              case measure => have := unhide HLT; simp [intOf]; omega
    · have hk10 : k = 10 := by omega
      have hnn : ¬ (k : Int) < 10 := by omega
      rw [hk10] at HB
      clear hk10 hk hlt
      go_wp2_with fail
      go_end0
      exact ⟨rfl, (unhide HB).1, (unhide HB).2⟩
end Go.Proofs.YtbnfilhilgjnfaaDoor
