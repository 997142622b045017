/- The document's Check. -/
import Derived.Test.YtonabfpgdgnpnaaDoorDB
import Derived.Test.YtonabfpgdgnpnaaDoorRfi
namespace Go.Proofs.YtonabfpgdgnpnaaDoor
set_option linter.unusedVariables false
set_option linter.unusedSimpArgs false
open Go.ChangeShapes Go.WideShapes Go.ChangeAt Go.RowKit Go.Joins Go.Deep

theorem chk_val (s : ByteArray) : (decide (runeV s.data.toList < 0) = true ∧ chkE s = 21) ∨ (decide (runeV s.data.toList < 0) = false ∧ decide (1024 < runeV s.data.toList) = true ∧ chkE s = 4) ∨ (decide (runeV s.data.toList < 0) = false ∧ decide (1024 < runeV s.data.toList) = false ∧ chkE s = 0) := by
  unfold runeV chkE
  cases hv : Lib.validD s.data.toList with
  | false => exact .inl ⟨by rw [if_neg (by simp)]; rfl, by simp⟩
  | true =>
    rw [if_pos rfl, Array.toArray_toList, show (⟨s.data⟩ : ByteArray) = s from rfl]
    rw [if_neg (by simp)]
    by_cases h : 1024 < Lib.runeCount s
    · exact .inr (.inl ⟨by simp, by simp; omega, by rw [if_pos h]⟩)
    · exact .inr (.inr ⟨by simp, by simp; omega, by rw [if_neg h]⟩)
set_option maxRecDepth 100000 in
set_option maxHeartbeats 4000000 in
theorem rchk_any (s : ByteArray) (w : World) (hs : s.size ≤ 1099511627776) : Calls Tryd.prog 26 #[.string s] w fun r w' => r = .returned (.int .i64 (chkE s)) ∧ Below w.heap.size w w' := by
  have hcv := Lib.run_convert_string_bytes (P := Tryd.prog) w 9 69 5 s Tryd.underlying9 Tryd.underlying69 Tryd.underlying5
  have hbw := bw_below w s
  have HBY := hide (bw_bys w s)
  have HK1 := hide hbw
  have HCA := hide (And.intro (grownCap_ge w s.size 0 5) (grownCap_le_maxLen w s.size 0 5 (by unfold maxLen; omega)))
  obtain ⟨cap, hcap⟩ : ∃ cap, grownCap w s.size 0 5 = cap := ⟨_, rfl⟩
  obtain ⟨W1, hW1⟩ : ∃ z, Lib.bytesWorld w 5 s = z := ⟨_, rfl⟩
  obtain ⟨g, hg⟩ : ∃ z, w.heap.size = z := ⟨_, rfl⟩
  rw [hcap] at hcv HCA
  rw [hW1] at hcv HBY HK1
  rw [hg] at hcv HBY
  have hsl : s.data.toList.length = s.size := by rw [Lib.size_eq]
  have KR := hide (runes_any g cap s.data.toList W1 (unhide HBY) (by rw [hsl]; exact (unhide HCA).1) (unhide HCA).2 (by rw [hsl]; omega) (some ⟨g, 0, none⟩) (fun _ => rfl))
  rw [hsl] at KR
  have hv := chk_val s
  obtain ⟨rv, hrv⟩ : ∃ z, runeV s.data.toList = z := ⟨_, rfl⟩
  rw [hrv] at KR hv
  have HG := hide hg
  clear hcap hW1 hg hbw hsl hrv
  rcases hv with ⟨h1, h2⟩ | ⟨h1, h3, h2⟩ | ⟨h1, h3, h2⟩
  · rw [h2]
    clear h2
    go_enter Tryd.func26, Tryd.ntmps26
    go_wp2_with fail
    refine Calls.mono (unhide KR) ?_
    rintro r w5 ⟨rfl, rfl⟩
    have hlt : rv < 0 := by simpa using h1
    clear h1
    go_wp2_with fail
    go_ret
    exact ⟨rfl, unhide HK1⟩
  · rw [h2]
    clear h2
    go_enter Tryd.func26, Tryd.ntmps26
    go_wp2_with fail
    refine Calls.mono (unhide KR) ?_
    rintro r w5 ⟨rfl, rfl⟩
    have hlt : ¬ rv < 0 := by simpa using h1
    have hgt : 1024 < rv := by simpa using h3
    clear h1 h3
    go_wp2_with fail
    go_ret
    exact ⟨rfl, unhide HK1⟩
  · rw [h2]
    clear h2
    go_enter Tryd.func26, Tryd.ntmps26
    go_wp2_with fail
    refine Calls.mono (unhide KR) ?_
    rintro r w5 ⟨rfl, rfl⟩
    have hlt : ¬ rv < 0 := by simpa using h1
    have hgt : ¬ 1024 < rv := by simpa using h3
    clear h1 h3
    go_wp2_with fail
    go_ret
    exact ⟨rfl, unhide HK1⟩
end Go.Proofs.YtonabfpgdgnpnaaDoor
