/- The table of well-formed sequences tells what decoding tells. -/
import Derived.Test.YtonabfpgdgnpnaaDoorPrn
namespace Go.Proofs.YtonabfpgdgnpnaaDoor
set_option linter.unusedVariables false
set_option linter.unusedSimpArgs false
open Go.Lib

/-- how many bytes a code point has that begins so; 0: none does -/
def wfK (b : Nat) : Nat := if b < 128 then 1 else if 194 ≤ b ∧ b ≤ 223 then 2 else if 224 ≤ b ∧ b ≤ 239 then 3 else if 240 ≤ b ∧ b ≤ 244 then 4 else 0
def wfLo (b : Nat) : Nat := if b = 224 then 160 else if b = 240 then 144 else 128
def wfHi (b : Nat) : Nat := if b = 237 then 159 else if b = 244 then 143 else 191
/-- these are well formed -/
def Wf (n b0 b1 b2 b3 : Nat) : Prop := wfK b0 ≠ 0 ∧ wfK b0 ≤ n ∧ (1 < wfK b0 → wfLo b0 ≤ b1 ∧ b1 ≤ wfHi b0) ∧ (2 < wfK b0 → 128 ≤ b2 ∧ b2 ≤ 191) ∧ (3 < wfK b0 → 128 ≤ b3 ∧ b3 ≤ 191)
theorem wf_dec {n b0 b1 b2 b3 : Nat} (h0 : b0 < 256) (h1 : b1 < 256) (h2 : b2 < 256) (h3 : b3 < 256) (hn : 1 ≤ n) :
    (Wf n b0 b1 b2 b3 → ¬ ((decodeN n b0 b1 b2 b3).1 = 65533 ∧ (decodeN n b0 b1 b2 b3).2 = 1) ∧ (decodeN n b0 b1 b2 b3).2 = wfK b0) ∧ (¬ Wf n b0 b1 b2 b3 → (decodeN n b0 b1 b2 b3).1 = 65533 ∧ (decodeN n b0 b1 b2 b3).2 = 1) := by
  by_cases a0 : b0 < 128
  · have hk : wfK b0 = 1 := by unfold wfK; rw [if_pos a0]
    have hd : decodeN n b0 b1 b2 b3 = (b0, 1) := by unfold decodeN; rw [if_pos a0]
    refine ⟨fun _ => ?_, fun hw => ?_⟩
    · rw [hd, hk]; simp; omega
    · exfalso; apply hw
      refine ⟨by omega, by omega, fun h => by omega, fun h => by omega, fun h => by omega⟩
  by_cases a1 : 194 ≤ b0 ∧ b0 ≤ 223
  · have hk : wfK b0 = 2 := by unfold wfK; rw [if_neg a0, if_pos a1]
    have hlo : wfLo b0 = 128 := by unfold wfLo; rw [if_neg (by omega), if_neg (by omega)]
    have hhi : wfHi b0 = 191 := by unfold wfHi; rw [if_neg (by omega), if_neg (by omega)]
    by_cases hc : 1 < n ∧ b1 / 64 = 2
    · have hd : decodeN n b0 b1 b2 b3 = (b0 % 32 * 64 + b1 % 64, 2) := by
        unfold decodeN; rw [if_neg a0, if_pos ⟨by omega, hc⟩, if_pos (by omega)]
      refine ⟨fun _ => by rw [hd, hk]; simp, fun hw => ?_⟩
      exfalso; apply hw
      refine ⟨by omega, by omega, fun h => by omega, fun h => by omega, fun h => by omega⟩
    · have hd : decodeN n b0 b1 b2 b3 = (65533, 1) := by
        unfold decodeN; rw [if_neg a0, if_neg (by omega), if_neg (by omega), if_neg (by omega)]
      refine ⟨fun hw => ?_, fun _ => by rw [hd]; simp⟩
      exfalso
      obtain ⟨w1, w2, w3, _⟩ := hw
      have := w3 (by omega)
      omega
  by_cases a2 : 224 ≤ b0 ∧ b0 ≤ 239
  · have hk : wfK b0 = 3 := by unfold wfK; rw [if_neg a0, if_neg a1, if_pos a2]
    by_cases hc : (1 < n ∧ b1 / 64 = 2) ∧ (2 < n ∧ b2 / 64 = 2)
    · have hd : decodeN n b0 b1 b2 b3 = (if b0 % 16 * 4096 + b1 % 64 * 64 + b2 % 64 ≥ 2048 ∧ (b0 % 16 * 4096 + b1 % 64 * 64 + b2 % 64 < 55296 ∨ (57344 ≤ b0 % 16 * 4096 + b1 % 64 * 64 + b2 % 64 ∧ b0 % 16 * 4096 + b1 % 64 * 64 + b2 % 64 ≤ 1114111)) then (b0 % 16 * 4096 + b1 % 64 * 64 + b2 % 64, 3) else (65533, 1)) := by
        unfold decodeN; rw [if_neg a0, if_neg (by omega), if_pos ⟨by omega, hc.1, hc.2⟩]
      by_cases hv : b0 % 16 * 4096 + b1 % 64 * 64 + b2 % 64 ≥ 2048 ∧ (b0 % 16 * 4096 + b1 % 64 * 64 + b2 % 64 < 55296 ∨ (57344 ≤ b0 % 16 * 4096 + b1 % 64 * 64 + b2 % 64 ∧ b0 % 16 * 4096 + b1 % 64 * 64 + b2 % 64 ≤ 1114111))
      · rw [if_pos hv] at hd
        refine ⟨fun _ => by rw [hd, hk]; simp, fun hw => ?_⟩
        exfalso; apply hw
        refine ⟨by omega, by omega, fun h => ?_, fun h => by omega, fun h => by omega⟩
        unfold wfLo wfHi
        constructor <;> split <;> (try split) <;> omega
      · rw [if_neg hv] at hd
        refine ⟨fun hw => ?_, fun _ => by rw [hd]; simp⟩
        exfalso; apply hv
        obtain ⟨w1, w2, w3, _⟩ := hw
        have h5 := w3 (by omega)
        unfold wfLo wfHi at h5
        by_cases e1 : b0 = 224
        · rw [if_pos e1] at h5; subst e1; simp at h5; omega
        · rw [if_neg e1] at h5
          by_cases e2 : b0 = 237
          · subst e2; simp at h5; omega
          · rw [if_neg e2] at h5; omega
    · have hd : decodeN n b0 b1 b2 b3 = (65533, 1) := by
        unfold decodeN; rw [if_neg a0, if_neg (by omega), if_neg (fun q => hc ⟨q.2.1, q.2.2⟩), if_neg (by omega)]
      refine ⟨fun hw => ?_, fun _ => by rw [hd]; simp⟩
      exfalso
      obtain ⟨w1, w2, w3, w4, _⟩ := hw
      have h5 := w3 (by omega)
      have h6 := w4 (by omega)
      have hlo : 128 ≤ wfLo b0 := by unfold wfLo; split; omega; split <;> omega
      have hhi : wfHi b0 ≤ 191 := by unfold wfHi; split; omega; split <;> omega
      omega
  by_cases a3 : 240 ≤ b0 ∧ b0 ≤ 244
  · have hk : wfK b0 = 4 := by unfold wfK; rw [if_neg a0, if_neg a1, if_neg a2, if_pos a3]
    by_cases hc : (1 < n ∧ b1 / 64 = 2) ∧ (2 < n ∧ b2 / 64 = 2) ∧ (3 < n ∧ b3 / 64 = 2)
    · have hd : decodeN n b0 b1 b2 b3 = (if b0 % 8 * 262144 + b1 % 64 * 4096 + b2 % 64 * 64 + b3 % 64 ≥ 65536 ∧ (b0 % 8 * 262144 + b1 % 64 * 4096 + b2 % 64 * 64 + b3 % 64 < 55296 ∨ (57344 ≤ b0 % 8 * 262144 + b1 % 64 * 4096 + b2 % 64 * 64 + b3 % 64 ∧ b0 % 8 * 262144 + b1 % 64 * 4096 + b2 % 64 * 64 + b3 % 64 ≤ 1114111)) then (b0 % 8 * 262144 + b1 % 64 * 4096 + b2 % 64 * 64 + b3 % 64, 4) else (65533, 1)) := by
        unfold decodeN; rw [if_neg a0, if_neg (by omega), if_neg (by omega), if_pos ⟨by omega, hc.1, hc.2.1, hc.2.2⟩]
      by_cases hv : b0 % 8 * 262144 + b1 % 64 * 4096 + b2 % 64 * 64 + b3 % 64 ≥ 65536 ∧ (b0 % 8 * 262144 + b1 % 64 * 4096 + b2 % 64 * 64 + b3 % 64 < 55296 ∨ (57344 ≤ b0 % 8 * 262144 + b1 % 64 * 4096 + b2 % 64 * 64 + b3 % 64 ∧ b0 % 8 * 262144 + b1 % 64 * 4096 + b2 % 64 * 64 + b3 % 64 ≤ 1114111))
      · rw [if_pos hv] at hd
        refine ⟨fun _ => by rw [hd, hk]; simp, fun hw => ?_⟩
        exfalso; apply hw
        refine ⟨by omega, by omega, fun h => ?_, fun h => by omega, fun h => by omega⟩
        unfold wfLo wfHi
        constructor <;> split <;> (try split) <;> omega
      · rw [if_neg hv] at hd
        refine ⟨fun hw => ?_, fun _ => by rw [hd]; simp⟩
        exfalso; apply hv
        obtain ⟨w1, w2, w3, w4, w5⟩ := hw
        have h5 := w3 (by omega)
        have h6 := w4 (by omega)
        have h7 := w5 (by omega)
        unfold wfLo wfHi at h5
        rw [if_neg (by omega)] at h5
        by_cases e1 : b0 = 240
        · subst e1; simp at h5; omega
        · rw [if_neg e1, if_neg (by omega)] at h5
          by_cases e2 : b0 = 244
          · subst e2; simp at h5; omega
          · rw [if_neg e2] at h5; omega
    · have hd : decodeN n b0 b1 b2 b3 = (65533, 1) := by
        unfold decodeN; rw [if_neg a0, if_neg (by omega), if_neg (by omega), if_neg (fun q => hc ⟨q.2.1, q.2.2.1, q.2.2.2⟩)]
      refine ⟨fun hw => ?_, fun _ => by rw [hd]; simp⟩
      exfalso
      obtain ⟨w1, w2, w3, w4, w5⟩ := hw
      have h5 := w3 (by omega)
      have h6 := w4 (by omega)
      have h7 := w5 (by omega)
      have hlo : 128 ≤ wfLo b0 := by unfold wfLo; split; omega; split <;> omega
      have hhi : wfHi b0 ≤ 191 := by unfold wfHi; split; omega; split <;> omega
      omega
  · have hk : wfK b0 = 0 := by unfold wfK; rw [if_neg a0, if_neg a1, if_neg a2, if_neg a3]
    refine ⟨fun hw => absurd hk hw.1, fun _ => ?_⟩
    have hd : decodeN n b0 b1 b2 b3 = (65533, 1) := by
      unfold decodeN
      rw [if_neg a0]
      by_cases c1 : b0 / 32 = 6 ∧ (1 < n ∧ b1 / 64 = 2)
      · rw [if_pos c1, if_neg (by omega)]
      · rw [if_neg c1, if_neg (by omega)]
        by_cases c3 : b0 / 8 = 30 ∧ (1 < n ∧ b1 / 64 = 2) ∧ (2 < n ∧ b2 / 64 = 2) ∧ (3 < n ∧ b3 / 64 = 2)
        · rw [if_pos c3, if_neg (by omega)]
        · rw [if_neg c3]
    rw [hd]; simp
/-- behind code points: the rest decides -/
theorem valid_pre : ∀ (pre : List (List UInt8)) (bs : List UInt8), Cps pre → validD (pre.flatten ++ bs) = validD bs
  | [], bs, _ => by simp
  | c :: pre, bs, h => by
    have hc := h.head
    rw [List.flatten_cons, List.append_assoc, validD_step _ (by simp [hc.ne]), hc.front, if_neg hc.ok, hc.all, List.drop_left]
    exact valid_pre pre bs h.tail
end Go.Proofs.YtonabfpgdgnpnaaDoor
