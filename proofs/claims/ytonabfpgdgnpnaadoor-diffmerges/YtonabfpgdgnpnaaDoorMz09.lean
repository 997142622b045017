/- Parts of the walk: Run, Rfi, DCk, DAl, DRm. -/
import Derived.Test.YtonabfpgdgnpnaaDoorMz08
import Derived.Test.YtonabfpgdgnpnaaDoorMz01
import Derived.Deep.LoopGhost
import Derived.Lib.ConvBytes
import Derived.Lib.OthersKept
import Derived.Lib.MapLaws
import Derived.Deep.AppendLies
namespace Go.Proofs.YtonabfpgdgnpnaaDoor
set_option linter.unusedVariables false
set_option linter.unusedSimpArgs false
open Go.ChangeShapes Go.WideShapes Go.ChangeAt Go.RowKit Go.Joins Go.Deep

/-- these bytes lie there -/
def BysAt (w : World) (g : Nat) (bs : List UInt8) : Prop := ∀ (j : Nat) (b : UInt8), bs[j]? = some b → w.cell? ⟨g, j, none⟩ = some (.int .u8 (b.toNat : Int))
def runeV (bs : List UInt8) : Int := if Lib.validD bs = true then (Lib.runeCount ⟨bs.toArray⟩ : Int) else -1
/-- the bytes from m before the end on begin with a code point of k bytes -/
def bAt (bs : List UInt8) (j : Nat) : Nat := (bs.getD j 0).toNat
def WfAt (bs : List UInt8) (m : Nat) : Prop := Wf m (bAt bs (bs.length - m)) (bAt bs (bs.length - m + 1)) (bAt bs (bs.length - m + 2)) (bAt bs (bs.length - m + 3))
theorem bAt_lt (bs : List UInt8) (j : Nat) : bAt bs j < 256 := by unfold bAt; exact UInt8.toNat_lt _
theorem dec_at (bs : List UInt8) {m : Nat} (hm : m ≤ bs.length) : Lib.decodeL (bs.drop (bs.length - m)) = Lib.decodeN m (bAt bs (bs.length - m)) (bAt bs (bs.length - m + 1)) (bAt bs (bs.length - m + 2)) (bAt bs (bs.length - m + 3)) := by
  rw [Lib.decodeL_N]
  unfold bAt
  simp only [List.getD_eq_getElem?_getD, List.getElem?_drop, List.length_drop, Nat.add_zero]
  rw [show bs.length - (bs.length - m) = m by omega]
/-- how far Runes has come -/
structure RI (bs : List UInt8) (m n : Nat) : Prop where
  le : m ≤ bs.length
  pre : ∃ cs, Cps cs ∧ bs = cs.flatten ++ bs.drop (bs.length - m) ∧ cs.length = n
theorem RI.fail {bs : List UInt8} {m n : Nat} (h : RI bs m n) (hm : 0 < m) (hw : ¬ WfAt bs m) : runeV bs = -1 := by
  obtain ⟨cs, h1, h2, h3⟩ := h.pre
  have hv : Lib.validD bs = Lib.validD (bs.drop (bs.length - m)) := by
    have := valid_pre cs (bs.drop (bs.length - m)) h1
    rw [← h2] at this
    exact this
  have hne : bs.drop (bs.length - m) ≠ [] := by
    intro e
    have h5 := congrArg List.length e
    rw [List.length_drop, List.length_nil] at h5
    have := h.le
    omega
  have hd := (wf_dec (bAt_lt bs _) (bAt_lt bs _) (bAt_lt bs _) (bAt_lt bs _) hm).2 hw
  rw [← dec_at bs h.le] at hd
  unfold runeV
  rw [hv, Lib.validD_step _ hne, if_pos hd]
  rfl
theorem RI.next {bs : List UInt8} {m n : Nat} (h : RI bs m n) (hm : 0 < m) (hw : WfAt bs m) : RI bs (m - wfK (bAt bs (bs.length - m))) (n + 1) ∧ wfK (bAt bs (bs.length - m)) ≤ m := by
  obtain ⟨cs, h1, h2, h3⟩ := h.pre
  have hd := (wf_dec (bAt_lt bs _) (bAt_lt bs _) (bAt_lt bs _) (bAt_lt bs _) hm).1 hw
  rw [← dec_at bs h.le] at hd
  obtain ⟨k, hk⟩ : ∃ k, wfK (bAt bs (bs.length - m)) = k := ⟨_, rfl⟩
  rw [hk] at hd ⊢
  have hkm : k ≤ m := by rw [← hk]; exact hw.2.1
  have hne : bs.drop (bs.length - m) ≠ [] := by
    intro e
    have h5 := congrArg List.length e
    rw [List.length_drop, List.length_nil] at h5
    have := h.le
    omega
  have hcp := cp_take hne hd.1
  rw [hd.2] at hcp
  have hle := h.le
  refine ⟨⟨by omega, cs ++ [(bs.drop (bs.length - m)).take k], h1.append (Cps.cons hcp Cps.nil), ?_, by simp [h3]⟩, hkm⟩
  rw [List.flatten_append, List.append_assoc]
  simp only [List.flatten_cons, List.flatten_nil, List.append_nil]
  have e : bs.drop (bs.length - (m - k)) = (bs.drop (bs.length - m)).drop k := by rw [List.drop_drop]; congr 1; omega
  rw [e, List.take_append_drop]
  exact h2
theorem RI.ends {bs : List UInt8} {n : Nat} (h : RI bs 0 n) : runeV bs = (n : Int) := by
  obtain ⟨cs, h1, h2, h3⟩ := h.pre
  simp at h2
  have hx : Tx ⟨bs.toArray⟩ cs := ⟨h1, by simpa using h2⟩
  have hv := hx.valid
  simp only at hv
  unfold runeV
  rw [if_pos (by simpa using hv), hx.count, h3]
def mlen : Value → Nat
  | .slice _ n _ => n
  | _ => 0
set_option maxRecDepth 100000 in
set_option maxHeartbeats 4000000 in
theorem runes_any (g cap : Nat) (bs : List UInt8) (w : World) (hb : BysAt w g bs) (hc : bs.length ≤ cap) (hm : cap ≤ maxLen) (hl : bs.length ≤ 281474976710656) (ao : Option Addr) (ha : bs ≠ [] → ao = some ⟨g, 0, none⟩) :
    Calls Tryd.prog 48 #[.slice ao bs.length cap] w fun r w' => r = .returned (.int .i64 (runeV bs)) ∧ w = w' := by
  have HBY := hide hb
  have HR0 : Hid (RI bs bs.length 0) := hide ⟨Nat.le_refl _, [], Cps.nil, by simp, rfl⟩
  have HA := hide ha
  obtain ⟨bl, hbl⟩ : ∃ z, bs.length = z := ⟨_, rfl⟩
  rw [hbl] at hc hl HR0 ⊢
  have HBL := hide hbl
  clear hb ha hbl
  go_enter Tryd.func48, Tryd.ntmps48
  go_wp2_with fail
  go_loopw [0, 3] (fun bv nv wr => w = wr ∧ ∃ (m n cc : Nat) (a : Option Addr), bv = .slice a m cc ∧ nv = .int .i64 (n : Int) ∧ m ≤ cc ∧ cc ≤ cap ∧ n + m ≤ bl ∧ Hid (m ≠ 0 → a = some ⟨g, bl - m, none⟩) ∧ Hid (RI bs m n)) (fun b _ _ => mlen b)
  case atStart => exact ⟨rfl, bl, 0, cap, ao, rfl, by simp, hc, by omega, by omega, hide (fun h => by rw [unhide HA (fun e => h (by rw [← unhide HBL, e]; rfl))]; simp), HR0⟩
  case round =>
    obtain ⟨rfl, m, n, cc, a, rfl, rfl, hmc, hcc, hnm, HAD, HRI⟩ := hrel
    by_cases hm0 : 0 < m
    · have hmI : (0 : Int) < (m : Int) := by omega
      obtain rfl := unhide HAD (by omega)
      obtain ⟨c0, hc0⟩ : ∃ z, bAt bs (bs.length - m) = z := ⟨_, rfl⟩
      have hc256 : c0 < 256 := by rw [← hc0]; exact bAt_lt _ _
      have hcI : (c0 : Int) < 256 := by omega
      have HC0 := hide hc0
      have ec : w.cell? ⟨g, bl - m, none⟩ = some (.int .u8 (c0 : Int)) := by
        obtain ⟨x, hx⟩ : ∃ x, bs[bs.length - m]? = some x := ⟨_, List.getElem?_eq_getElem (by have := (unhide HRI).le; omega)⟩
        have h1 := unhide HBY _ x hx
        rw [← hc0, ← unhide HBL]
        unfold bAt
        rw [List.getD_eq_getElem?_getD, hx]
        exact h1
      clear hc0
      by_cases k1 : (c0 : Int) < 128
      · have HKV : Hid (wfK c0 = 1) := hide (by unfold wfK; rw [if_pos (by omega)])
        have HLO : Hid (wfLo c0 = 128) := hide (by unfold wfLo; split; omega; split <;> omega)
        have HHI : Hid (wfHi c0 = 191) := hide (by unfold wfHi; split; omega; split <;> omega)
        by_cases hln : (m : Int) < 1
        · have HF : Hid (runeV bs = -1) := hide ((unhide HRI).fail hm0 (fun q => by have h1 := q.2.1; rw [unhide HC0, unhide HKV] at h1; omega))
          go_wp2_with fail
          go_ret
          exact ⟨by rw [unhide HF] <;> rfl, rfl⟩
        · have hlnN : 1 ≤ m := by omega
          have HWN : Hid (∀ z : WfAt bs m, ∀ j, 1 ≤ j → j < 1 → ¬ ((if j = 1 then 128 else 128) ≤ bAt bs (bs.length - m + j) ∧ bAt bs (bs.length - m + j) ≤ (if j = 1 then 191 else 191)) → False) := hide (fun z j h1 h2 hno => by
            unfold WfAt Wf at z
            rw [unhide HC0, unhide HKV, unhide HLO, unhide HHI] at z
            obtain ⟨_, _, z1, z2, z3⟩ := z
            apply hno
            match j, h1, h2 with
            | 0, h1, _ => omega
            | j + 1, _, h2 => omega
            )
          have HWY : Hid ((∀ j, 1 ≤ j → j < 1 → (if j = 1 then 128 else 128) ≤ bAt bs (bs.length - m + j) ∧ bAt bs (bs.length - m + j) ≤ (if j = 1 then 191 else 191)) → WfAt bs m) := hide (fun hall => by
            unfold WfAt Wf
            rw [unhide HC0, unhide HKV, unhide HLO, unhide HHI]
            exact ⟨by omega, by omega, (fun h => by omega), (fun h => by omega), (fun h => by omega)⟩)
          go_wp2_with fail
          go_loopw [5, 6, 8] (fun lv hv i wr => w = wr ∧ ∃ q : Nat, 1 ≤ q ∧ q ≤ 1 ∧ i = .int .i64 (q : Int) ∧ lv = .int .u8 (if q = 1 then 128 else 128) ∧ hv = .int .u8 (if q = 1 then 191 else 191) ∧ Hid (∀ j, 1 ≤ j → j < q → (if j = 1 then 128 else 128) ≤ bAt bs (bs.length - m + j) ∧ bAt bs (bs.length - m + j) ≤ (if j = 1 then 191 else 191))) (fun _ _ i _ => ((1 : Int) - intOf i).toNat)
          case atStart => exact ⟨rfl, 1, by omega, by omega, by simp, by simp, by simp, hide (fun j h1 h2 => by omega)⟩
          case round =>
            obtain ⟨rfl, q, hq1, hqK, rfl, rfl, rfl, HOK⟩ := hrel
            by_cases hqlt : (q : Int) < 1
            · have hqm : (q : Int) < (m : Int) := by omega
              obtain ⟨cj, hcj⟩ : ∃ z, bAt bs (bs.length - m + q) = z := ⟨_, rfl⟩
              have HCJ := hide hcj
              have ej : w.cell? ⟨g, bs.length - m + q, none⟩ = some (.int .u8 (cj : Int)) := by
                obtain ⟨x, hx⟩ : ∃ x, bs[bs.length - m + q]? = some x := ⟨_, List.getElem?_eq_getElem (by have := (unhide HRI).le; omega)⟩
                have h1 := unhide HBY _ x hx
                rw [← hcj]
                unfold bAt
                rw [List.getD_eq_getElem?_getD, hx]
                exact h1
              rw [show bs.length = bl from unhide HBL] at ej
              obtain ⟨lo, hlo⟩ : ∃ z : Int, (if q = 1 then (128 : Int) else 128) = z := ⟨_, rfl⟩
              obtain ⟨hi, hhi⟩ : ∃ z : Int, (if q = 1 then (191 : Int) else 191) = z := ⟨_, rfl⟩
              rw [hlo, hhi]
              have hlob : 0 ≤ lo ∧ lo ≤ 255 := by rw [← hlo]; split <;> omega
              have hhib : 0 ≤ hi ∧ hi ≤ 255 := by rw [← hhi]; split <;> omega
              have HLOQ := hide hlo
              have HHIQ := hide hhi
              clear hlo hhi hcj
              by_cases hb1 : (cj : Int) < lo
              · have HF : Hid (runeV bs = -1) := hide ((unhide HRI).fail hm0 (fun z => unhide HWN z q (by omega) (by omega) (fun h => by have h2 := unhide HLOQ; rw [unhide HCJ] at h; split at h2 <;> split at h <;> omega)))
                go_wp2_with fail
                go_ret
                exact ⟨by rw [unhide HF] <;> rfl, rfl⟩
              · by_cases hb2 : hi < (cj : Int)
                · have HF : Hid (runeV bs = -1) := hide ((unhide HRI).fail hm0 (fun z => unhide HWN z q (by omega) (by omega) (fun h => by have h2 := unhide HHIQ; rw [unhide HCJ] at h; split at h2 <;> split at h <;> omega)))
                  go_wp2_with fail
                  go_ret
                  exact ⟨by rw [unhide HF] <;> rfl, rfl⟩
                · have HOK2 : Hid (∀ j, 1 ≤ j → j < q + 1 → (if j = 1 then 128 else 128) ≤ bAt bs (bs.length - m + j) ∧ bAt bs (bs.length - m + j) ≤ (if j = 1 then 191 else 191)) := hide (fun j h1 h2 => by
                    by_cases hj : j = q
                    · have h3 := unhide HLOQ
                      have h4 := unhide HHIQ
                      rw [hj, unhide HCJ]
                      by_cases hq1e : q = 1
                      · simp only [if_pos hq1e] at h3 h4 ⊢; omega
                      · simp only [if_neg hq1e] at h3 h4 ⊢; omega
                    · exact unhide HOK j h1 (by omega))
                  go_wp2_with fail
                  exact ⟨⟨by first | trivial | rfl, q + 1, by omega, by omega, by simp, by simp <;> omega, by simp <;> omega, HOK2⟩, by simp [intOf] <;> omega⟩
            · obtain rfl : q = 1 := by omega
              have hWF : WfAt bs m := unhide HWY (unhide HOK)
              have hnx := (unhide HRI).next hm0 hWF
              rw [unhide HC0, unhide HKV] at hnx
              have HRN := hide hnx.1
              clear hWF hnx
              obtain ⟨a2, ha2⟩ : ∃ z, (if cc = 1 then some (⟨g, bl - m, none⟩ : Addr) else some ⟨g, bl - m + 1, none⟩) = z := ⟨_, rfl⟩
              have HA2 := hide ha2
              go_wp2_with fail
              exact ⟨⟨by first | trivial | rfl, m - 1, n + 1, cc - 1, a2, by first | trivial | rfl, by first | trivial | (push_cast; rfl), by omega, by omega, by omega, hide (fun h => by have h2 := unhide HA2; rw [if_neg (by omega)] at h2; rw [← h2]; congr 2; omega), HRN⟩, by simp [mlen]; omega⟩
      · by_cases k2 : (194 : Int) ≤ (c0 : Int) ∧ (c0 : Int) ≤ 223
        · obtain ⟨k2a, k2b⟩ := k2
          have HKV : Hid (wfK c0 = 2) := hide (by unfold wfK; rw [if_neg (by omega), if_pos (by omega)])
          have HLO : Hid (wfLo c0 = 128) := hide (by unfold wfLo; split; omega; split <;> omega)
          have HHI : Hid (wfHi c0 = 191) := hide (by unfold wfHi; split; omega; split <;> omega)
          by_cases hln : (m : Int) < 2
          · have HF : Hid (runeV bs = -1) := hide ((unhide HRI).fail hm0 (fun q => by have h1 := q.2.1; rw [unhide HC0, unhide HKV] at h1; omega))
            go_wp2_with fail
            go_ret
            exact ⟨by rw [unhide HF] <;> rfl, rfl⟩
          · have hlnN : 2 ≤ m := by omega
            have HWN : Hid (∀ z : WfAt bs m, ∀ j, 1 ≤ j → j < 2 → ¬ ((if j = 1 then 128 else 128) ≤ bAt bs (bs.length - m + j) ∧ bAt bs (bs.length - m + j) ≤ (if j = 1 then 191 else 191)) → False) := hide (fun z j h1 h2 hno => by
              unfold WfAt Wf at z
              rw [unhide HC0, unhide HKV, unhide HLO, unhide HHI] at z
              obtain ⟨_, _, z1, z2, z3⟩ := z
              apply hno
              match j, h1, h2 with
              | 1, _, _ => have := z1 (by omega); simp; omega
              | 0, h1, _ => omega
              | j + 2, _, h2 => omega
              )
            have HWY : Hid ((∀ j, 1 ≤ j → j < 2 → (if j = 1 then 128 else 128) ≤ bAt bs (bs.length - m + j) ∧ bAt bs (bs.length - m + j) ≤ (if j = 1 then 191 else 191)) → WfAt bs m) := hide (fun hall => by
              unfold WfAt Wf
              rw [unhide HC0, unhide HKV, unhide HLO, unhide HHI]
              exact ⟨by omega, by omega, (fun _ => by have := hall 1 (by omega) (by omega); simpa using this), (fun h => by omega), (fun h => by omega)⟩)
            go_wp2_with fail
            go_loopw [5, 6, 8] (fun lv hv i wr => w = wr ∧ ∃ q : Nat, 1 ≤ q ∧ q ≤ 2 ∧ i = .int .i64 (q : Int) ∧ lv = .int .u8 (if q = 1 then 128 else 128) ∧ hv = .int .u8 (if q = 1 then 191 else 191) ∧ Hid (∀ j, 1 ≤ j → j < q → (if j = 1 then 128 else 128) ≤ bAt bs (bs.length - m + j) ∧ bAt bs (bs.length - m + j) ≤ (if j = 1 then 191 else 191))) (fun _ _ i _ => ((2 : Int) - intOf i).toNat)
            case atStart => exact ⟨rfl, 1, by omega, by omega, by simp, by simp, by simp, hide (fun j h1 h2 => by omega)⟩
            case round =>
              obtain ⟨rfl, q, hq1, hqK, rfl, rfl, rfl, HOK⟩ := hrel
              by_cases hqlt : (q : Int) < 2
              · have hqm : (q : Int) < (m : Int) := by omega
                obtain ⟨cj, hcj⟩ : ∃ z, bAt bs (bs.length - m + q) = z := ⟨_, rfl⟩
                have HCJ := hide hcj
                have ej : w.cell? ⟨g, bs.length - m + q, none⟩ = some (.int .u8 (cj : Int)) := by
                  obtain ⟨x, hx⟩ : ∃ x, bs[bs.length - m + q]? = some x := ⟨_, List.getElem?_eq_getElem (by have := (unhide HRI).le; omega)⟩
                  have h1 := unhide HBY _ x hx
                  rw [← hcj]
                  unfold bAt
                  rw [List.getD_eq_getElem?_getD, hx]
                  exact h1
                rw [show bs.length = bl from unhide HBL] at ej
                obtain ⟨lo, hlo⟩ : ∃ z : Int, (if q = 1 then (128 : Int) else 128) = z := ⟨_, rfl⟩
                obtain ⟨hi, hhi⟩ : ∃ z : Int, (if q = 1 then (191 : Int) else 191) = z := ⟨_, rfl⟩
                rw [hlo, hhi]
                have hlob : 0 ≤ lo ∧ lo ≤ 255 := by rw [← hlo]; split <;> omega
                have hhib : 0 ≤ hi ∧ hi ≤ 255 := by rw [← hhi]; split <;> omega
                have HLOQ := hide hlo
                have HHIQ := hide hhi
                clear hlo hhi hcj
                by_cases hb1 : (cj : Int) < lo
                · have HF : Hid (runeV bs = -1) := hide ((unhide HRI).fail hm0 (fun z => unhide HWN z q (by omega) (by omega) (fun h => by have h2 := unhide HLOQ; rw [unhide HCJ] at h; split at h2 <;> split at h <;> omega)))
                  go_wp2_with fail
                  go_ret
                  exact ⟨by rw [unhide HF] <;> rfl, rfl⟩
                · by_cases hb2 : hi < (cj : Int)
                  · have HF : Hid (runeV bs = -1) := hide ((unhide HRI).fail hm0 (fun z => unhide HWN z q (by omega) (by omega) (fun h => by have h2 := unhide HHIQ; rw [unhide HCJ] at h; split at h2 <;> split at h <;> omega)))
                    go_wp2_with fail
                    go_ret
                    exact ⟨by rw [unhide HF] <;> rfl, rfl⟩
                  · have HOK2 : Hid (∀ j, 1 ≤ j → j < q + 1 → (if j = 1 then 128 else 128) ≤ bAt bs (bs.length - m + j) ∧ bAt bs (bs.length - m + j) ≤ (if j = 1 then 191 else 191)) := hide (fun j h1 h2 => by
                      by_cases hj : j = q
                      · have h3 := unhide HLOQ
                        have h4 := unhide HHIQ
                        rw [hj, unhide HCJ]
                        by_cases hq1e : q = 1
                        · simp only [if_pos hq1e] at h3 h4 ⊢; omega
                        · simp only [if_neg hq1e] at h3 h4 ⊢; omega
                      · exact unhide HOK j h1 (by omega))
                    go_wp2_with fail
                    exact ⟨⟨by first | trivial | rfl, q + 1, by omega, by omega, by simp, by simp <;> omega, by simp <;> omega, HOK2⟩, by simp [intOf] <;> omega⟩
              · obtain rfl : q = 2 := by omega
                have hWF : WfAt bs m := unhide HWY (unhide HOK)
                have hnx := (unhide HRI).next hm0 hWF
                rw [unhide HC0, unhide HKV] at hnx
                have HRN := hide hnx.1
                clear hWF hnx
                obtain ⟨a2, ha2⟩ : ∃ z, (if cc = 2 then some (⟨g, bl - m, none⟩ : Addr) else some ⟨g, bl - m + 2, none⟩) = z := ⟨_, rfl⟩
                have HA2 := hide ha2
                go_wp2_with fail
                exact ⟨⟨by first | trivial | rfl, m - 2, n + 1, cc - 2, a2, by first | trivial | rfl, by first | trivial | (push_cast; rfl), by omega, by omega, by omega, hide (fun h => by have h2 := unhide HA2; rw [if_neg (by omega)] at h2; rw [← h2]; congr 2; omega), HRN⟩, by simp [mlen]; omega⟩
        · have t2 : (decide ((194 : Int) ≤ (c0 : Int)) && decide ((c0 : Int) ≤ 223)) = false := by simp; omega
          by_cases k3 : (224 : Int) ≤ (c0 : Int) ∧ (c0 : Int) ≤ 239
          · obtain ⟨k3a, k3b⟩ := k3
            have n2 : ¬ (c0 : Int) ≤ 223 := by omega
            have n2a : (194 : Int) ≤ (c0 : Int) := by omega
            clear k2 t2
            by_cases e1 : (c0 : Int) = 224
            · have e1b : ((c0 : Int) == 224) = true := by simp [e1]
              have e1c : ((c0 : Int) == 237) = false := by simp; omega
              have HKV : Hid (wfK c0 = 3) := hide (by unfold wfK; rw [if_neg (by omega), if_neg (by omega), if_pos (by omega)])
              have HLO : Hid (wfLo c0 = 160) := hide (by unfold wfLo; split; omega; split <;> omega)
              have HHI : Hid (wfHi c0 = 191) := hide (by unfold wfHi; split; omega; split <;> omega)
              by_cases hln : (m : Int) < 3
              · have HF : Hid (runeV bs = -1) := hide ((unhide HRI).fail hm0 (fun q => by have h1 := q.2.1; rw [unhide HC0, unhide HKV] at h1; omega))
                go_wp2_with fail
                go_ret
                exact ⟨by rw [unhide HF] <;> rfl, rfl⟩
              · have hlnN : 3 ≤ m := by omega
                have HWN : Hid (∀ z : WfAt bs m, ∀ j, 1 ≤ j → j < 3 → ¬ ((if j = 1 then 160 else 128) ≤ bAt bs (bs.length - m + j) ∧ bAt bs (bs.length - m + j) ≤ (if j = 1 then 191 else 191)) → False) := hide (fun z j h1 h2 hno => by
                  unfold WfAt Wf at z
                  rw [unhide HC0, unhide HKV, unhide HLO, unhide HHI] at z
                  obtain ⟨_, _, z1, z2, z3⟩ := z
                  apply hno
                  match j, h1, h2 with
                  | 1, _, _ => have := z1 (by omega); simp; omega
                  | 2, _, _ => have := z2 (by omega); simp; omega
                  | 0, h1, _ => omega
                  | j + 3, _, h2 => omega
                  )
                have HWY : Hid ((∀ j, 1 ≤ j → j < 3 → (if j = 1 then 160 else 128) ≤ bAt bs (bs.length - m + j) ∧ bAt bs (bs.length - m + j) ≤ (if j = 1 then 191 else 191)) → WfAt bs m) := hide (fun hall => by
                  unfold WfAt Wf
                  rw [unhide HC0, unhide HKV, unhide HLO, unhide HHI]
                  exact ⟨by omega, by omega, (fun _ => by have := hall 1 (by omega) (by omega); simpa using this), (fun _ => by have := hall 2 (by omega) (by omega); simpa using this), (fun h => by omega)⟩)
                go_wp2_with fail
                go_loopw [5, 6, 8] (fun lv hv i wr => w = wr ∧ ∃ q : Nat, 1 ≤ q ∧ q ≤ 3 ∧ i = .int .i64 (q : Int) ∧ lv = .int .u8 (if q = 1 then 160 else 128) ∧ hv = .int .u8 (if q = 1 then 191 else 191) ∧ Hid (∀ j, 1 ≤ j → j < q → (if j = 1 then 160 else 128) ≤ bAt bs (bs.length - m + j) ∧ bAt bs (bs.length - m + j) ≤ (if j = 1 then 191 else 191))) (fun _ _ i _ => ((3 : Int) - intOf i).toNat)
                case atStart => exact ⟨rfl, 1, by omega, by omega, by simp, by simp, by simp, hide (fun j h1 h2 => by omega)⟩
                case round =>
                  obtain ⟨rfl, q, hq1, hqK, rfl, rfl, rfl, HOK⟩ := hrel
                  by_cases hqlt : (q : Int) < 3
                  · have hqm : (q : Int) < (m : Int) := by omega
                    obtain ⟨cj, hcj⟩ : ∃ z, bAt bs (bs.length - m + q) = z := ⟨_, rfl⟩
                    have HCJ := hide hcj
                    have ej : w.cell? ⟨g, bs.length - m + q, none⟩ = some (.int .u8 (cj : Int)) := by
                      obtain ⟨x, hx⟩ : ∃ x, bs[bs.length - m + q]? = some x := ⟨_, List.getElem?_eq_getElem (by have := (unhide HRI).le; omega)⟩
                      have h1 := unhide HBY _ x hx
                      rw [← hcj]
                      unfold bAt
                      rw [List.getD_eq_getElem?_getD, hx]
                      exact h1
                    rw [show bs.length = bl from unhide HBL] at ej
                    obtain ⟨lo, hlo⟩ : ∃ z : Int, (if q = 1 then (160 : Int) else 128) = z := ⟨_, rfl⟩
                    obtain ⟨hi, hhi⟩ : ∃ z : Int, (if q = 1 then (191 : Int) else 191) = z := ⟨_, rfl⟩
                    rw [hlo, hhi]
                    have hlob : 0 ≤ lo ∧ lo ≤ 255 := by rw [← hlo]; split <;> omega
                    have hhib : 0 ≤ hi ∧ hi ≤ 255 := by rw [← hhi]; split <;> omega
                    have HLOQ := hide hlo
                    have HHIQ := hide hhi
                    clear hlo hhi hcj
                    by_cases hb1 : (cj : Int) < lo
                    · have HF : Hid (runeV bs = -1) := hide ((unhide HRI).fail hm0 (fun z => unhide HWN z q (by omega) (by omega) (fun h => by have h2 := unhide HLOQ; rw [unhide HCJ] at h; split at h2 <;> split at h <;> omega)))
                      go_wp2_with fail
                      go_ret
                      exact ⟨by rw [unhide HF] <;> rfl, rfl⟩
                    · by_cases hb2 : hi < (cj : Int)
                      · have HF : Hid (runeV bs = -1) := hide ((unhide HRI).fail hm0 (fun z => unhide HWN z q (by omega) (by omega) (fun h => by have h2 := unhide HHIQ; rw [unhide HCJ] at h; split at h2 <;> split at h <;> omega)))
                        go_wp2_with fail
                        go_ret
                        exact ⟨by rw [unhide HF] <;> rfl, rfl⟩
                      · have HOK2 : Hid (∀ j, 1 ≤ j → j < q + 1 → (if j = 1 then 160 else 128) ≤ bAt bs (bs.length - m + j) ∧ bAt bs (bs.length - m + j) ≤ (if j = 1 then 191 else 191)) := hide (fun j h1 h2 => by
                          by_cases hj : j = q
                          · have h3 := unhide HLOQ
                            have h4 := unhide HHIQ
                            rw [hj, unhide HCJ]
                            by_cases hq1e : q = 1
                            · simp only [if_pos hq1e] at h3 h4 ⊢; omega
                            · simp only [if_neg hq1e] at h3 h4 ⊢; omega
                          · exact unhide HOK j h1 (by omega))
                        go_wp2_with fail
                        exact ⟨⟨by first | trivial | rfl, q + 1, by omega, by omega, by simp, by simp <;> omega, by simp <;> omega, HOK2⟩, by simp [intOf] <;> omega⟩
                  · obtain rfl : q = 3 := by omega
                    have hWF : WfAt bs m := unhide HWY (unhide HOK)
                    have hnx := (unhide HRI).next hm0 hWF
                    rw [unhide HC0, unhide HKV] at hnx
                    have HRN := hide hnx.1
                    clear hWF hnx
                    obtain ⟨a2, ha2⟩ : ∃ z, (if cc = 3 then some (⟨g, bl - m, none⟩ : Addr) else some ⟨g, bl - m + 3, none⟩) = z := ⟨_, rfl⟩
                    have HA2 := hide ha2
                    go_wp2_with fail
                    exact ⟨⟨by first | trivial | rfl, m - 3, n + 1, cc - 3, a2, by first | trivial | rfl, by first | trivial | (push_cast; rfl), by omega, by omega, by omega, hide (fun h => by have h2 := unhide HA2; rw [if_neg (by omega)] at h2; rw [← h2]; congr 2; omega), HRN⟩, by simp [mlen]; omega⟩
            · have e1b : ((c0 : Int) == 224) = false := by simp; omega
              by_cases e2 : (c0 : Int) = 237
              · have e2b : ((c0 : Int) == 237) = true := by simp [e2]
                have HKV : Hid (wfK c0 = 3) := hide (by unfold wfK; rw [if_neg (by omega), if_neg (by omega), if_pos (by omega)])
                have HLO : Hid (wfLo c0 = 128) := hide (by unfold wfLo; split; omega; split <;> omega)
                have HHI : Hid (wfHi c0 = 159) := hide (by unfold wfHi; split; omega; split <;> omega)
                by_cases hln : (m : Int) < 3
                · have HF : Hid (runeV bs = -1) := hide ((unhide HRI).fail hm0 (fun q => by have h1 := q.2.1; rw [unhide HC0, unhide HKV] at h1; omega))
                  go_wp2_with fail
                  go_ret
                  exact ⟨by rw [unhide HF] <;> rfl, rfl⟩
                · have hlnN : 3 ≤ m := by omega
                  have HWN : Hid (∀ z : WfAt bs m, ∀ j, 1 ≤ j → j < 3 → ¬ ((if j = 1 then 128 else 128) ≤ bAt bs (bs.length - m + j) ∧ bAt bs (bs.length - m + j) ≤ (if j = 1 then 159 else 191)) → False) := hide (fun z j h1 h2 hno => by
                    unfold WfAt Wf at z
                    rw [unhide HC0, unhide HKV, unhide HLO, unhide HHI] at z
                    obtain ⟨_, _, z1, z2, z3⟩ := z
                    apply hno
                    match j, h1, h2 with
                    | 1, _, _ => have := z1 (by omega); simp; omega
                    | 2, _, _ => have := z2 (by omega); simp; omega
                    | 0, h1, _ => omega
                    | j + 3, _, h2 => omega
                    )
                  have HWY : Hid ((∀ j, 1 ≤ j → j < 3 → (if j = 1 then 128 else 128) ≤ bAt bs (bs.length - m + j) ∧ bAt bs (bs.length - m + j) ≤ (if j = 1 then 159 else 191)) → WfAt bs m) := hide (fun hall => by
                    unfold WfAt Wf
                    rw [unhide HC0, unhide HKV, unhide HLO, unhide HHI]
                    exact ⟨by omega, by omega, (fun _ => by have := hall 1 (by omega) (by omega); simpa using this), (fun _ => by have := hall 2 (by omega) (by omega); simpa using this), (fun h => by omega)⟩)
                  go_wp2_with fail
                  go_loopw [5, 6, 8] (fun lv hv i wr => w = wr ∧ ∃ q : Nat, 1 ≤ q ∧ q ≤ 3 ∧ i = .int .i64 (q : Int) ∧ lv = .int .u8 (if q = 1 then 128 else 128) ∧ hv = .int .u8 (if q = 1 then 159 else 191) ∧ Hid (∀ j, 1 ≤ j → j < q → (if j = 1 then 128 else 128) ≤ bAt bs (bs.length - m + j) ∧ bAt bs (bs.length - m + j) ≤ (if j = 1 then 159 else 191))) (fun _ _ i _ => ((3 : Int) - intOf i).toNat)
                  case atStart => exact ⟨rfl, 1, by omega, by omega, by simp, by simp, by simp, hide (fun j h1 h2 => by omega)⟩
                  case round =>
                    obtain ⟨rfl, q, hq1, hqK, rfl, rfl, rfl, HOK⟩ := hrel
                    by_cases hqlt : (q : Int) < 3
                    · have hqm : (q : Int) < (m : Int) := by omega
                      obtain ⟨cj, hcj⟩ : ∃ z, bAt bs (bs.length - m + q) = z := ⟨_, rfl⟩
                      have HCJ := hide hcj
                      have ej : w.cell? ⟨g, bs.length - m + q, none⟩ = some (.int .u8 (cj : Int)) := by
                        obtain ⟨x, hx⟩ : ∃ x, bs[bs.length - m + q]? = some x := ⟨_, List.getElem?_eq_getElem (by have := (unhide HRI).le; omega)⟩
                        have h1 := unhide HBY _ x hx
                        rw [← hcj]
                        unfold bAt
                        rw [List.getD_eq_getElem?_getD, hx]
                        exact h1
                      rw [show bs.length = bl from unhide HBL] at ej
                      obtain ⟨lo, hlo⟩ : ∃ z : Int, (if q = 1 then (128 : Int) else 128) = z := ⟨_, rfl⟩
                      obtain ⟨hi, hhi⟩ : ∃ z : Int, (if q = 1 then (159 : Int) else 191) = z := ⟨_, rfl⟩
                      rw [hlo, hhi]
                      have hlob : 0 ≤ lo ∧ lo ≤ 255 := by rw [← hlo]; split <;> omega
                      have hhib : 0 ≤ hi ∧ hi ≤ 255 := by rw [← hhi]; split <;> omega
                      have HLOQ := hide hlo
                      have HHIQ := hide hhi
                      clear hlo hhi hcj
                      by_cases hb1 : (cj : Int) < lo
                      · have HF : Hid (runeV bs = -1) := hide ((unhide HRI).fail hm0 (fun z => unhide HWN z q (by omega) (by omega) (fun h => by have h2 := unhide HLOQ; rw [unhide HCJ] at h; split at h2 <;> split at h <;> omega)))
                        go_wp2_with fail
                        go_ret
                        exact ⟨by rw [unhide HF] <;> rfl, rfl⟩
                      · by_cases hb2 : hi < (cj : Int)
                        · have HF : Hid (runeV bs = -1) := hide ((unhide HRI).fail hm0 (fun z => unhide HWN z q (by omega) (by omega) (fun h => by have h2 := unhide HHIQ; rw [unhide HCJ] at h; split at h2 <;> split at h <;> omega)))
                          go_wp2_with fail
                          go_ret
                          exact ⟨by rw [unhide HF] <;> rfl, rfl⟩
                        · have HOK2 : Hid (∀ j, 1 ≤ j → j < q + 1 → (if j = 1 then 128 else 128) ≤ bAt bs (bs.length - m + j) ∧ bAt bs (bs.length - m + j) ≤ (if j = 1 then 159 else 191)) := hide (fun j h1 h2 => by
                            by_cases hj : j = q
                            · have h3 := unhide HLOQ
                              have h4 := unhide HHIQ
                              rw [hj, unhide HCJ]
                              by_cases hq1e : q = 1
                              · simp only [if_pos hq1e] at h3 h4 ⊢; omega
                              · simp only [if_neg hq1e] at h3 h4 ⊢; omega
                            · exact unhide HOK j h1 (by omega))
                          go_wp2_with fail
                          exact ⟨⟨by first | trivial | rfl, q + 1, by omega, by omega, by simp, by simp <;> omega, by simp <;> omega, HOK2⟩, by simp [intOf] <;> omega⟩
                    · obtain rfl : q = 3 := by omega
                      have hWF : WfAt bs m := unhide HWY (unhide HOK)
                      have hnx := (unhide HRI).next hm0 hWF
                      rw [unhide HC0, unhide HKV] at hnx
                      have HRN := hide hnx.1
                      clear hWF hnx
                      obtain ⟨a2, ha2⟩ : ∃ z, (if cc = 3 then some (⟨g, bl - m, none⟩ : Addr) else some ⟨g, bl - m + 3, none⟩) = z := ⟨_, rfl⟩
                      have HA2 := hide ha2
                      go_wp2_with fail
                      exact ⟨⟨by first | trivial | rfl, m - 3, n + 1, cc - 3, a2, by first | trivial | rfl, by first | trivial | (push_cast; rfl), by omega, by omega, by omega, hide (fun h => by have h2 := unhide HA2; rw [if_neg (by omega)] at h2; rw [← h2]; congr 2; omega), HRN⟩, by simp [mlen]; omega⟩
              · have e2b : ((c0 : Int) == 237) = false := by simp; omega
                have HKV : Hid (wfK c0 = 3) := hide (by unfold wfK; rw [if_neg (by omega), if_neg (by omega), if_pos (by omega)])
                have HLO : Hid (wfLo c0 = 128) := hide (by unfold wfLo; split; omega; split <;> omega)
                have HHI : Hid (wfHi c0 = 191) := hide (by unfold wfHi; split; omega; split <;> omega)
                by_cases hln : (m : Int) < 3
                · have HF : Hid (runeV bs = -1) := hide ((unhide HRI).fail hm0 (fun q => by have h1 := q.2.1; rw [unhide HC0, unhide HKV] at h1; omega))
                  go_wp2_with fail
                  go_ret
                  exact ⟨by rw [unhide HF] <;> rfl, rfl⟩
                · have hlnN : 3 ≤ m := by omega
                  have HWN : Hid (∀ z : WfAt bs m, ∀ j, 1 ≤ j → j < 3 → ¬ ((if j = 1 then 128 else 128) ≤ bAt bs (bs.length - m + j) ∧ bAt bs (bs.length - m + j) ≤ (if j = 1 then 191 else 191)) → False) := hide (fun z j h1 h2 hno => by
                    unfold WfAt Wf at z
                    rw [unhide HC0, unhide HKV, unhide HLO, unhide HHI] at z
                    obtain ⟨_, _, z1, z2, z3⟩ := z
                    apply hno
                    match j, h1, h2 with
                    | 1, _, _ => have := z1 (by omega); simp; omega
                    | 2, _, _ => have := z2 (by omega); simp; omega
                    | 0, h1, _ => omega
                    | j + 3, _, h2 => omega
                    )
                  have HWY : Hid ((∀ j, 1 ≤ j → j < 3 → (if j = 1 then 128 else 128) ≤ bAt bs (bs.length - m + j) ∧ bAt bs (bs.length - m + j) ≤ (if j = 1 then 191 else 191)) → WfAt bs m) := hide (fun hall => by
                    unfold WfAt Wf
                    rw [unhide HC0, unhide HKV, unhide HLO, unhide HHI]
                    exact ⟨by omega, by omega, (fun _ => by have := hall 1 (by omega) (by omega); simpa using this), (fun _ => by have := hall 2 (by omega) (by omega); simpa using this), (fun h => by omega)⟩)
                  go_wp2_with fail
                  go_loopw [5, 6, 8] (fun lv hv i wr => w = wr ∧ ∃ q : Nat, 1 ≤ q ∧ q ≤ 3 ∧ i = .int .i64 (q : Int) ∧ lv = .int .u8 (if q = 1 then 128 else 128) ∧ hv = .int .u8 (if q = 1 then 191 else 191) ∧ Hid (∀ j, 1 ≤ j → j < q → (if j = 1 then 128 else 128) ≤ bAt bs (bs.length - m + j) ∧ bAt bs (bs.length - m + j) ≤ (if j = 1 then 191 else 191))) (fun _ _ i _ => ((3 : Int) - intOf i).toNat)
                  case atStart => exact ⟨rfl, 1, by omega, by omega, by simp, by simp, by simp, hide (fun j h1 h2 => by omega)⟩
                  case round =>
                    obtain ⟨rfl, q, hq1, hqK, rfl, rfl, rfl, HOK⟩ := hrel
                    by_cases hqlt : (q : Int) < 3
                    · have hqm : (q : Int) < (m : Int) := by omega
                      obtain ⟨cj, hcj⟩ : ∃ z, bAt bs (bs.length - m + q) = z := ⟨_, rfl⟩
                      have HCJ := hide hcj
                      have ej : w.cell? ⟨g, bs.length - m + q, none⟩ = some (.int .u8 (cj : Int)) := by
                        obtain ⟨x, hx⟩ : ∃ x, bs[bs.length - m + q]? = some x := ⟨_, List.getElem?_eq_getElem (by have := (unhide HRI).le; omega)⟩
                        have h1 := unhide HBY _ x hx
                        rw [← hcj]
                        unfold bAt
                        rw [List.getD_eq_getElem?_getD, hx]
                        exact h1
                      rw [show bs.length = bl from unhide HBL] at ej
                      obtain ⟨lo, hlo⟩ : ∃ z : Int, (if q = 1 then (128 : Int) else 128) = z := ⟨_, rfl⟩
                      obtain ⟨hi, hhi⟩ : ∃ z : Int, (if q = 1 then (191 : Int) else 191) = z := ⟨_, rfl⟩
                      rw [hlo, hhi]
                      have hlob : 0 ≤ lo ∧ lo ≤ 255 := by rw [← hlo]; split <;> omega
                      have hhib : 0 ≤ hi ∧ hi ≤ 255 := by rw [← hhi]; split <;> omega
                      have HLOQ := hide hlo
                      have HHIQ := hide hhi
                      clear hlo hhi hcj
                      by_cases hb1 : (cj : Int) < lo
                      · have HF : Hid (runeV bs = -1) := hide ((unhide HRI).fail hm0 (fun z => unhide HWN z q (by omega) (by omega) (fun h => by have h2 := unhide HLOQ; rw [unhide HCJ] at h; split at h2 <;> split at h <;> omega)))
                        go_wp2_with fail
                        go_ret
                        exact ⟨by rw [unhide HF] <;> rfl, rfl⟩
                      · by_cases hb2 : hi < (cj : Int)
                        · have HF : Hid (runeV bs = -1) := hide ((unhide HRI).fail hm0 (fun z => unhide HWN z q (by omega) (by omega) (fun h => by have h2 := unhide HHIQ; rw [unhide HCJ] at h; split at h2 <;> split at h <;> omega)))
                          go_wp2_with fail
                          go_ret
                          exact ⟨by rw [unhide HF] <;> rfl, rfl⟩
                        · have HOK2 : Hid (∀ j, 1 ≤ j → j < q + 1 → (if j = 1 then 128 else 128) ≤ bAt bs (bs.length - m + j) ∧ bAt bs (bs.length - m + j) ≤ (if j = 1 then 191 else 191)) := hide (fun j h1 h2 => by
                            by_cases hj : j = q
                            · have h3 := unhide HLOQ
                              have h4 := unhide HHIQ
                              rw [hj, unhide HCJ]
                              by_cases hq1e : q = 1
                              · simp only [if_pos hq1e] at h3 h4 ⊢; omega
                              · simp only [if_neg hq1e] at h3 h4 ⊢; omega
                            · exact unhide HOK j h1 (by omega))
                          go_wp2_with fail
                          exact ⟨⟨by first | trivial | rfl, q + 1, by omega, by omega, by simp, by simp <;> omega, by simp <;> omega, HOK2⟩, by simp [intOf] <;> omega⟩
                    · obtain rfl : q = 3 := by omega
                      have hWF : WfAt bs m := unhide HWY (unhide HOK)
                      have hnx := (unhide HRI).next hm0 hWF
                      rw [unhide HC0, unhide HKV] at hnx
                      have HRN := hide hnx.1
                      clear hWF hnx
                      obtain ⟨a2, ha2⟩ : ∃ z, (if cc = 3 then some (⟨g, bl - m, none⟩ : Addr) else some ⟨g, bl - m + 3, none⟩) = z := ⟨_, rfl⟩
                      have HA2 := hide ha2
                      go_wp2_with fail
                      exact ⟨⟨by first | trivial | rfl, m - 3, n + 1, cc - 3, a2, by first | trivial | rfl, by first | trivial | (push_cast; rfl), by omega, by omega, by omega, hide (fun h => by have h2 := unhide HA2; rw [if_neg (by omega)] at h2; rw [← h2]; congr 2; omega), HRN⟩, by simp [mlen]; omega⟩
          · by_cases k4 : (240 : Int) ≤ (c0 : Int) ∧ (c0 : Int) ≤ 244
            · obtain ⟨k4a, k4b⟩ := k4
              have n2 : ¬ (c0 : Int) ≤ 223 := by omega
              have n2a : (194 : Int) ≤ (c0 : Int) := by omega
              have n3 : ¬ (c0 : Int) ≤ 239 := by omega
              have n3a : (224 : Int) ≤ (c0 : Int) := by omega
              clear k2 t2 k3
              by_cases e1 : (c0 : Int) = 240
              · have e1b : ((c0 : Int) == 240) = true := by simp [e1]
                have e1c : ((c0 : Int) == 244) = false := by simp; omega
                have HKV : Hid (wfK c0 = 4) := hide (by unfold wfK; rw [if_neg (by omega), if_neg (by omega), if_neg (by omega), if_pos (by omega)])
                have HLO : Hid (wfLo c0 = 144) := hide (by unfold wfLo; split; omega; split <;> omega)
                have HHI : Hid (wfHi c0 = 191) := hide (by unfold wfHi; split; omega; split <;> omega)
                by_cases hln : (m : Int) < 4
                · have HF : Hid (runeV bs = -1) := hide ((unhide HRI).fail hm0 (fun q => by have h1 := q.2.1; rw [unhide HC0, unhide HKV] at h1; omega))
                  go_wp2_with fail
                  go_ret
                  exact ⟨by rw [unhide HF] <;> rfl, rfl⟩
                · have hlnN : 4 ≤ m := by omega
                  have HWN : Hid (∀ z : WfAt bs m, ∀ j, 1 ≤ j → j < 4 → ¬ ((if j = 1 then 144 else 128) ≤ bAt bs (bs.length - m + j) ∧ bAt bs (bs.length - m + j) ≤ (if j = 1 then 191 else 191)) → False) := hide (fun z j h1 h2 hno => by
                    unfold WfAt Wf at z
                    rw [unhide HC0, unhide HKV, unhide HLO, unhide HHI] at z
                    obtain ⟨_, _, z1, z2, z3⟩ := z
                    apply hno
                    match j, h1, h2 with
                    | 1, _, _ => have := z1 (by omega); simp; omega
                    | 2, _, _ => have := z2 (by omega); simp; omega
                    | 3, _, _ => have := z3 (by omega); simp; omega
                    | 0, h1, _ => omega
                    | j + 4, _, h2 => omega
                    )
                  have HWY : Hid ((∀ j, 1 ≤ j → j < 4 → (if j = 1 then 144 else 128) ≤ bAt bs (bs.length - m + j) ∧ bAt bs (bs.length - m + j) ≤ (if j = 1 then 191 else 191)) → WfAt bs m) := hide (fun hall => by
                    unfold WfAt Wf
                    rw [unhide HC0, unhide HKV, unhide HLO, unhide HHI]
                    exact ⟨by omega, by omega, (fun _ => by have := hall 1 (by omega) (by omega); simpa using this), (fun _ => by have := hall 2 (by omega) (by omega); simpa using this), (fun _ => by have := hall 3 (by omega) (by omega); simpa using this)⟩)
                  go_wp2_with fail
                  go_loopw [5, 6, 8] (fun lv hv i wr => w = wr ∧ ∃ q : Nat, 1 ≤ q ∧ q ≤ 4 ∧ i = .int .i64 (q : Int) ∧ lv = .int .u8 (if q = 1 then 144 else 128) ∧ hv = .int .u8 (if q = 1 then 191 else 191) ∧ Hid (∀ j, 1 ≤ j → j < q → (if j = 1 then 144 else 128) ≤ bAt bs (bs.length - m + j) ∧ bAt bs (bs.length - m + j) ≤ (if j = 1 then 191 else 191))) (fun _ _ i _ => ((4 : Int) - intOf i).toNat)
                  case atStart => exact ⟨rfl, 1, by omega, by omega, by simp, by simp, by simp, hide (fun j h1 h2 => by omega)⟩
                  case round =>
                    obtain ⟨rfl, q, hq1, hqK, rfl, rfl, rfl, HOK⟩ := hrel
                    by_cases hqlt : (q : Int) < 4
                    · have hqm : (q : Int) < (m : Int) := by omega
                      obtain ⟨cj, hcj⟩ : ∃ z, bAt bs (bs.length - m + q) = z := ⟨_, rfl⟩
                      have HCJ := hide hcj
                      have ej : w.cell? ⟨g, bs.length - m + q, none⟩ = some (.int .u8 (cj : Int)) := by
                        obtain ⟨x, hx⟩ : ∃ x, bs[bs.length - m + q]? = some x := ⟨_, List.getElem?_eq_getElem (by have := (unhide HRI).le; omega)⟩
                        have h1 := unhide HBY _ x hx
                        rw [← hcj]
                        unfold bAt
                        rw [List.getD_eq_getElem?_getD, hx]
                        exact h1
                      rw [show bs.length = bl from unhide HBL] at ej
                      obtain ⟨lo, hlo⟩ : ∃ z : Int, (if q = 1 then (144 : Int) else 128) = z := ⟨_, rfl⟩
                      obtain ⟨hi, hhi⟩ : ∃ z : Int, (if q = 1 then (191 : Int) else 191) = z := ⟨_, rfl⟩
                      rw [hlo, hhi]
                      have hlob : 0 ≤ lo ∧ lo ≤ 255 := by rw [← hlo]; split <;> omega
                      have hhib : 0 ≤ hi ∧ hi ≤ 255 := by rw [← hhi]; split <;> omega
                      have HLOQ := hide hlo
                      have HHIQ := hide hhi
                      clear hlo hhi hcj
                      by_cases hb1 : (cj : Int) < lo
                      · have HF : Hid (runeV bs = -1) := hide ((unhide HRI).fail hm0 (fun z => unhide HWN z q (by omega) (by omega) (fun h => by have h2 := unhide HLOQ; rw [unhide HCJ] at h; split at h2 <;> split at h <;> omega)))
                        go_wp2_with fail
                        go_ret
                        exact ⟨by rw [unhide HF] <;> rfl, rfl⟩
                      · by_cases hb2 : hi < (cj : Int)
                        · have HF : Hid (runeV bs = -1) := hide ((unhide HRI).fail hm0 (fun z => unhide HWN z q (by omega) (by omega) (fun h => by have h2 := unhide HHIQ; rw [unhide HCJ] at h; split at h2 <;> split at h <;> omega)))
                          go_wp2_with fail
                          go_ret
                          exact ⟨by rw [unhide HF] <;> rfl, rfl⟩
                        · have HOK2 : Hid (∀ j, 1 ≤ j → j < q + 1 → (if j = 1 then 144 else 128) ≤ bAt bs (bs.length - m + j) ∧ bAt bs (bs.length - m + j) ≤ (if j = 1 then 191 else 191)) := hide (fun j h1 h2 => by
                            by_cases hj : j = q
                            · have h3 := unhide HLOQ
                              have h4 := unhide HHIQ
                              rw [hj, unhide HCJ]
                              by_cases hq1e : q = 1
                              · simp only [if_pos hq1e] at h3 h4 ⊢; omega
                              · simp only [if_neg hq1e] at h3 h4 ⊢; omega
                            · exact unhide HOK j h1 (by omega))
                          go_wp2_with fail
                          exact ⟨⟨by first | trivial | rfl, q + 1, by omega, by omega, by simp, by simp <;> omega, by simp <;> omega, HOK2⟩, by simp [intOf] <;> omega⟩
                    · obtain rfl : q = 4 := by omega
                      have hWF : WfAt bs m := unhide HWY (unhide HOK)
                      have hnx := (unhide HRI).next hm0 hWF
                      rw [unhide HC0, unhide HKV] at hnx
                      have HRN := hide hnx.1
                      clear hWF hnx
                      obtain ⟨a2, ha2⟩ : ∃ z, (if cc = 4 then some (⟨g, bl - m, none⟩ : Addr) else some ⟨g, bl - m + 4, none⟩) = z := ⟨_, rfl⟩
                      have HA2 := hide ha2
                      go_wp2_with fail
                      exact ⟨⟨by first | trivial | rfl, m - 4, n + 1, cc - 4, a2, by first | trivial | rfl, by first | trivial | (push_cast; rfl), by omega, by omega, by omega, hide (fun h => by have h2 := unhide HA2; rw [if_neg (by omega)] at h2; rw [← h2]; congr 2; omega), HRN⟩, by simp [mlen]; omega⟩
              · have e1b : ((c0 : Int) == 240) = false := by simp; omega
                by_cases e2 : (c0 : Int) = 244
                · have e2b : ((c0 : Int) == 244) = true := by simp [e2]
                  have HKV : Hid (wfK c0 = 4) := hide (by unfold wfK; rw [if_neg (by omega), if_neg (by omega), if_neg (by omega), if_pos (by omega)])
                  have HLO : Hid (wfLo c0 = 128) := hide (by unfold wfLo; split; omega; split <;> omega)
                  have HHI : Hid (wfHi c0 = 143) := hide (by unfold wfHi; split; omega; split <;> omega)
                  by_cases hln : (m : Int) < 4
                  · have HF : Hid (runeV bs = -1) := hide ((unhide HRI).fail hm0 (fun q => by have h1 := q.2.1; rw [unhide HC0, unhide HKV] at h1; omega))
                    go_wp2_with fail
                    go_ret
                    exact ⟨by rw [unhide HF] <;> rfl, rfl⟩
                  · have hlnN : 4 ≤ m := by omega
                    have HWN : Hid (∀ z : WfAt bs m, ∀ j, 1 ≤ j → j < 4 → ¬ ((if j = 1 then 128 else 128) ≤ bAt bs (bs.length - m + j) ∧ bAt bs (bs.length - m + j) ≤ (if j = 1 then 143 else 191)) → False) := hide (fun z j h1 h2 hno => by
                      unfold WfAt Wf at z
                      rw [unhide HC0, unhide HKV, unhide HLO, unhide HHI] at z
                      obtain ⟨_, _, z1, z2, z3⟩ := z
                      apply hno
                      match j, h1, h2 with
                      | 1, _, _ => have := z1 (by omega); simp; omega
                      | 2, _, _ => have := z2 (by omega); simp; omega
                      | 3, _, _ => have := z3 (by omega); simp; omega
                      | 0, h1, _ => omega
                      | j + 4, _, h2 => omega
                      )
                    have HWY : Hid ((∀ j, 1 ≤ j → j < 4 → (if j = 1 then 128 else 128) ≤ bAt bs (bs.length - m + j) ∧ bAt bs (bs.length - m + j) ≤ (if j = 1 then 143 else 191)) → WfAt bs m) := hide (fun hall => by
                      unfold WfAt Wf
                      rw [unhide HC0, unhide HKV, unhide HLO, unhide HHI]
                      exact ⟨by omega, by omega, (fun _ => by have := hall 1 (by omega) (by omega); simpa using this), (fun _ => by have := hall 2 (by omega) (by omega); simpa using this), (fun _ => by have := hall 3 (by omega) (by omega); simpa using this)⟩)
                    go_wp2_with fail
                    go_loopw [5, 6, 8] (fun lv hv i wr => w = wr ∧ ∃ q : Nat, 1 ≤ q ∧ q ≤ 4 ∧ i = .int .i64 (q : Int) ∧ lv = .int .u8 (if q = 1 then 128 else 128) ∧ hv = .int .u8 (if q = 1 then 143 else 191) ∧ Hid (∀ j, 1 ≤ j → j < q → (if j = 1 then 128 else 128) ≤ bAt bs (bs.length - m + j) ∧ bAt bs (bs.length - m + j) ≤ (if j = 1 then 143 else 191))) (fun _ _ i _ => ((4 : Int) - intOf i).toNat)
                    case atStart => exact ⟨rfl, 1, by omega, by omega, by simp, by simp, by simp, hide (fun j h1 h2 => by omega)⟩
                    case round =>
                      obtain ⟨rfl, q, hq1, hqK, rfl, rfl, rfl, HOK⟩ := hrel
                      by_cases hqlt : (q : Int) < 4
                      · have hqm : (q : Int) < (m : Int) := by omega
                        obtain ⟨cj, hcj⟩ : ∃ z, bAt bs (bs.length - m + q) = z := ⟨_, rfl⟩
                        have HCJ := hide hcj
                        have ej : w.cell? ⟨g, bs.length - m + q, none⟩ = some (.int .u8 (cj : Int)) := by
                          obtain ⟨x, hx⟩ : ∃ x, bs[bs.length - m + q]? = some x := ⟨_, List.getElem?_eq_getElem (by have := (unhide HRI).le; omega)⟩
                          have h1 := unhide HBY _ x hx
                          rw [← hcj]
                          unfold bAt
                          rw [List.getD_eq_getElem?_getD, hx]
                          exact h1
                        rw [show bs.length = bl from unhide HBL] at ej
                        obtain ⟨lo, hlo⟩ : ∃ z : Int, (if q = 1 then (128 : Int) else 128) = z := ⟨_, rfl⟩
                        obtain ⟨hi, hhi⟩ : ∃ z : Int, (if q = 1 then (143 : Int) else 191) = z := ⟨_, rfl⟩
                        rw [hlo, hhi]
                        have hlob : 0 ≤ lo ∧ lo ≤ 255 := by rw [← hlo]; split <;> omega
                        have hhib : 0 ≤ hi ∧ hi ≤ 255 := by rw [← hhi]; split <;> omega
                        have HLOQ := hide hlo
                        have HHIQ := hide hhi
                        clear hlo hhi hcj
                        by_cases hb1 : (cj : Int) < lo
                        · have HF : Hid (runeV bs = -1) := hide ((unhide HRI).fail hm0 (fun z => unhide HWN z q (by omega) (by omega) (fun h => by have h2 := unhide HLOQ; rw [unhide HCJ] at h; split at h2 <;> split at h <;> omega)))
                          go_wp2_with fail
                          go_ret
                          exact ⟨by rw [unhide HF] <;> rfl, rfl⟩
                        · by_cases hb2 : hi < (cj : Int)
                          · have HF : Hid (runeV bs = -1) := hide ((unhide HRI).fail hm0 (fun z => unhide HWN z q (by omega) (by omega) (fun h => by have h2 := unhide HHIQ; rw [unhide HCJ] at h; split at h2 <;> split at h <;> omega)))
                            go_wp2_with fail
                            go_ret
                            exact ⟨by rw [unhide HF] <;> rfl, rfl⟩
                          · have HOK2 : Hid (∀ j, 1 ≤ j → j < q + 1 → (if j = 1 then 128 else 128) ≤ bAt bs (bs.length - m + j) ∧ bAt bs (bs.length - m + j) ≤ (if j = 1 then 143 else 191)) := hide (fun j h1 h2 => by
                              by_cases hj : j = q
                              · have h3 := unhide HLOQ
                                have h4 := unhide HHIQ
                                rw [hj, unhide HCJ]
                                by_cases hq1e : q = 1
                                · simp only [if_pos hq1e] at h3 h4 ⊢; omega
                                · simp only [if_neg hq1e] at h3 h4 ⊢; omega
                              · exact unhide HOK j h1 (by omega))
                            go_wp2_with fail
                            exact ⟨⟨by first | trivial | rfl, q + 1, by omega, by omega, by simp, by simp <;> omega, by simp <;> omega, HOK2⟩, by simp [intOf] <;> omega⟩
                      · obtain rfl : q = 4 := by omega
                        have hWF : WfAt bs m := unhide HWY (unhide HOK)
                        have hnx := (unhide HRI).next hm0 hWF
                        rw [unhide HC0, unhide HKV] at hnx
                        have HRN := hide hnx.1
                        clear hWF hnx
                        obtain ⟨a2, ha2⟩ : ∃ z, (if cc = 4 then some (⟨g, bl - m, none⟩ : Addr) else some ⟨g, bl - m + 4, none⟩) = z := ⟨_, rfl⟩
                        have HA2 := hide ha2
                        go_wp2_with fail
                        exact ⟨⟨by first | trivial | rfl, m - 4, n + 1, cc - 4, a2, by first | trivial | rfl, by first | trivial | (push_cast; rfl), by omega, by omega, by omega, hide (fun h => by have h2 := unhide HA2; rw [if_neg (by omega)] at h2; rw [← h2]; congr 2; omega), HRN⟩, by simp [mlen]; omega⟩
                · have e2b : ((c0 : Int) == 244) = false := by simp; omega
                  have HKV : Hid (wfK c0 = 4) := hide (by unfold wfK; rw [if_neg (by omega), if_neg (by omega), if_neg (by omega), if_pos (by omega)])
                  have HLO : Hid (wfLo c0 = 128) := hide (by unfold wfLo; split; omega; split <;> omega)
                  have HHI : Hid (wfHi c0 = 191) := hide (by unfold wfHi; split; omega; split <;> omega)
                  by_cases hln : (m : Int) < 4
                  · have HF : Hid (runeV bs = -1) := hide ((unhide HRI).fail hm0 (fun q => by have h1 := q.2.1; rw [unhide HC0, unhide HKV] at h1; omega))
                    go_wp2_with fail
                    go_ret
                    exact ⟨by rw [unhide HF] <;> rfl, rfl⟩
                  · have hlnN : 4 ≤ m := by omega
                    have HWN : Hid (∀ z : WfAt bs m, ∀ j, 1 ≤ j → j < 4 → ¬ ((if j = 1 then 128 else 128) ≤ bAt bs (bs.length - m + j) ∧ bAt bs (bs.length - m + j) ≤ (if j = 1 then 191 else 191)) → False) := hide (fun z j h1 h2 hno => by
                      unfold WfAt Wf at z
                      rw [unhide HC0, unhide HKV, unhide HLO, unhide HHI] at z
                      obtain ⟨_, _, z1, z2, z3⟩ := z
                      apply hno
                      match j, h1, h2 with
                      | 1, _, _ => have := z1 (by omega); simp; omega
                      | 2, _, _ => have := z2 (by omega); simp; omega
                      | 3, _, _ => have := z3 (by omega); simp; omega
                      | 0, h1, _ => omega
                      | j + 4, _, h2 => omega
                      )
                    have HWY : Hid ((∀ j, 1 ≤ j → j < 4 → (if j = 1 then 128 else 128) ≤ bAt bs (bs.length - m + j) ∧ bAt bs (bs.length - m + j) ≤ (if j = 1 then 191 else 191)) → WfAt bs m) := hide (fun hall => by
                      unfold WfAt Wf
                      rw [unhide HC0, unhide HKV, unhide HLO, unhide HHI]
                      exact ⟨by omega, by omega, (fun _ => by have := hall 1 (by omega) (by omega); simpa using this), (fun _ => by have := hall 2 (by omega) (by omega); simpa using this), (fun _ => by have := hall 3 (by omega) (by omega); simpa using this)⟩)
                    go_wp2_with fail
                    go_loopw [5, 6, 8] (fun lv hv i wr => w = wr ∧ ∃ q : Nat, 1 ≤ q ∧ q ≤ 4 ∧ i = .int .i64 (q : Int) ∧ lv = .int .u8 (if q = 1 then 128 else 128) ∧ hv = .int .u8 (if q = 1 then 191 else 191) ∧ Hid (∀ j, 1 ≤ j → j < q → (if j = 1 then 128 else 128) ≤ bAt bs (bs.length - m + j) ∧ bAt bs (bs.length - m + j) ≤ (if j = 1 then 191 else 191))) (fun _ _ i _ => ((4 : Int) - intOf i).toNat)
                    case atStart => exact ⟨rfl, 1, by omega, by omega, by simp, by simp, by simp, hide (fun j h1 h2 => by omega)⟩
                    case round =>
                      obtain ⟨rfl, q, hq1, hqK, rfl, rfl, rfl, HOK⟩ := hrel
                      by_cases hqlt : (q : Int) < 4
                      · have hqm : (q : Int) < (m : Int) := by omega
                        obtain ⟨cj, hcj⟩ : ∃ z, bAt bs (bs.length - m + q) = z := ⟨_, rfl⟩
                        have HCJ := hide hcj
                        have ej : w.cell? ⟨g, bs.length - m + q, none⟩ = some (.int .u8 (cj : Int)) := by
                          obtain ⟨x, hx⟩ : ∃ x, bs[bs.length - m + q]? = some x := ⟨_, List.getElem?_eq_getElem (by have := (unhide HRI).le; omega)⟩
                          have h1 := unhide HBY _ x hx
                          rw [← hcj]
                          unfold bAt
                          rw [List.getD_eq_getElem?_getD, hx]
                          exact h1
                        rw [show bs.length = bl from unhide HBL] at ej
                        obtain ⟨lo, hlo⟩ : ∃ z : Int, (if q = 1 then (128 : Int) else 128) = z := ⟨_, rfl⟩
                        obtain ⟨hi, hhi⟩ : ∃ z : Int, (if q = 1 then (191 : Int) else 191) = z := ⟨_, rfl⟩
                        rw [hlo, hhi]
                        have hlob : 0 ≤ lo ∧ lo ≤ 255 := by rw [← hlo]; split <;> omega
                        have hhib : 0 ≤ hi ∧ hi ≤ 255 := by rw [← hhi]; split <;> omega
                        have HLOQ := hide hlo
                        have HHIQ := hide hhi
                        clear hlo hhi hcj
                        by_cases hb1 : (cj : Int) < lo
                        · have HF : Hid (runeV bs = -1) := hide ((unhide HRI).fail hm0 (fun z => unhide HWN z q (by omega) (by omega) (fun h => by have h2 := unhide HLOQ; rw [unhide HCJ] at h; split at h2 <;> split at h <;> omega)))
                          go_wp2_with fail
                          go_ret
                          exact ⟨by rw [unhide HF] <;> rfl, rfl⟩
                        · by_cases hb2 : hi < (cj : Int)
                          · have HF : Hid (runeV bs = -1) := hide ((unhide HRI).fail hm0 (fun z => unhide HWN z q (by omega) (by omega) (fun h => by have h2 := unhide HHIQ; rw [unhide HCJ] at h; split at h2 <;> split at h <;> omega)))
                            go_wp2_with fail
                            go_ret
                            exact ⟨by rw [unhide HF] <;> rfl, rfl⟩
                          · have HOK2 : Hid (∀ j, 1 ≤ j → j < q + 1 → (if j = 1 then 128 else 128) ≤ bAt bs (bs.length - m + j) ∧ bAt bs (bs.length - m + j) ≤ (if j = 1 then 191 else 191)) := hide (fun j h1 h2 => by
                              by_cases hj : j = q
                              · have h3 := unhide HLOQ
                                have h4 := unhide HHIQ
                                rw [hj, unhide HCJ]
                                by_cases hq1e : q = 1
                                · simp only [if_pos hq1e] at h3 h4 ⊢; omega
                                · simp only [if_neg hq1e] at h3 h4 ⊢; omega
                              · exact unhide HOK j h1 (by omega))
                            go_wp2_with fail
                            exact ⟨⟨by first | trivial | rfl, q + 1, by omega, by omega, by simp, by simp <;> omega, by simp <;> omega, HOK2⟩, by simp [intOf] <;> omega⟩
                      · obtain rfl : q = 4 := by omega
                        have hWF : WfAt bs m := unhide HWY (unhide HOK)
                        have hnx := (unhide HRI).next hm0 hWF
                        rw [unhide HC0, unhide HKV] at hnx
                        have HRN := hide hnx.1
                        clear hWF hnx
                        obtain ⟨a2, ha2⟩ : ∃ z, (if cc = 4 then some (⟨g, bl - m, none⟩ : Addr) else some ⟨g, bl - m + 4, none⟩) = z := ⟨_, rfl⟩
                        have HA2 := hide ha2
                        go_wp2_with fail
                        exact ⟨⟨by first | trivial | rfl, m - 4, n + 1, cc - 4, a2, by first | trivial | rfl, by first | trivial | (push_cast; rfl), by omega, by omega, by omega, hide (fun h => by have h2 := unhide HA2; rw [if_neg (by omega)] at h2; rw [← h2]; congr 2; omega), HRN⟩, by simp [mlen]; omega⟩
            · have HF : Hid (runeV bs = -1) := hide ((unhide HRI).fail hm0 (fun q => q.1 (by rw [unhide HC0]; unfold wfK; rw [if_neg (by omega), if_neg (by omega), if_neg (by omega), if_neg (by omega)])))
              by_cases p1 : (194 : Int) ≤ (c0 : Int)
              · have p2 : ¬ (c0 : Int) ≤ 223 := by omega
                have p3 : (224 : Int) ≤ (c0 : Int) := by omega
                have p4 : ¬ (c0 : Int) ≤ 239 := by omega
                have p5 : (240 : Int) ≤ (c0 : Int) := by omega
                have p6 : ¬ (c0 : Int) ≤ 244 := by omega
                clear k2 k3 k4 t2
                go_wp2_with fail
                go_ret
                exact ⟨by rw [unhide HF] <;> rfl, rfl⟩
              · have p3 : ¬ (224 : Int) ≤ (c0 : Int) := by omega
                have p5 : ¬ (240 : Int) ≤ (c0 : Int) := by omega
                clear k2 k3 k4 t2
                go_wp2_with fail
                go_ret
                exact ⟨by rw [unhide HF] <;> rfl, rfl⟩
    · obtain rfl : m = 0 := by omega
      have HE := hide (unhide HRI).ends
      go_wp2_with fail
      go_ret
      exact ⟨by rw [unhide HE] <;> rfl, rfl⟩
end Go.Proofs.YtonabfpgdgnpnaaDoor

namespace Go.Proofs.YtonabfpgdgnpnaaDoor
set_option linter.unusedVariables false
set_option linter.unusedSimpArgs false
open Go.ChangeShapes Go.WideShapes Go.ChangeAt Go.RowKit Go.Joins Go.Deep Go.Shelf

theorem bw_below (w : World) (s : ByteArray) : Below w.heap.size w (Lib.bytesWorld w 5 s) :=
  ⟨rfl, rfl, rfl, by rw [Lib.bytesWorld_size]; omega, fun k hk => Lib.bytesWorld_at_old w 5 s k hk⟩
theorem bw_bys (w : World) (s : ByteArray) : BysAt (Lib.bytesWorld w 5 s) w.heap.size s.data.toList := fun j b hj => by
  have hlt : j < s.data.toList.length := by
    rcases Nat.lt_or_ge j s.data.toList.length with h | h
    · exact h
    · rw [List.getElem?_eq_none h] at hj; cases hj
  rw [Lib.bytesWorld_cell w 5 s j (by rw [Lib.size_eq]; exact hlt), List.getD_eq_getElem?_getD, hj]
  rfl
theorem rune_fits (s : ByteArray) (n : Int) (hn : 1 ≤ n) : (runeV s.data.toList == n) = (Lib.validD s.data.toList && decide ((Lib.runeCount s : Int) = n)) := by
  unfold runeV
  cases h : Lib.validD s.data.toList with
  | false =>
    rw [if_neg (by simp)]
    simp; omega
  | true =>
    rw [if_pos rfl]
    simp only [Array.toArray_toList, Bool.true_and]
    rfl
set_option maxRecDepth 100000 in
set_option maxHeartbeats 4000000 in
theorem rfits_any (p : Pt) (w : World) (hs : p.text.size ≤ 281474976710656) : Calls Tryd.prog 54 #[pv p] w fun r w' => r = .returned (.bool (fitsB p)) ∧ Below w.heap.size w w' := by
  obtain ⟨k, n, s⟩ := p
  have hb : Below w.heap.size w (w.alloc (.cells #[.int .i64 k, .int .i64 n, .string s] 39)) := (Below.refl _ _).alloc (Nat.le_refl _) _
  have HB := hide hb
  have hrow := RowAt.new w 39 [.int .i64 k, .int .i64 n, .string s]
  simp only at hs
  have HSB := hide hs
  clear hb hs
  unfold pv fitsB
  simp only
  by_cases h1 : n < 1
  · have hd : decide (1 ≤ n) = false := by simp; omega
    rw [hd]
    simp only [Bool.false_and]
    go_enter Tryd.func54, Tryd.ntmps54
    go_wp2_with fail
    go_ret
    exact ⟨rfl, unhide HB⟩
  have hd1 : decide (1 ≤ n) = true := by simp; omega
  rw [hd1]
  by_cases h2 : 1099511627776 < n
  · have hd : decide (n ≤ 1099511627776) = false := by simp; omega
    rw [hd]
    simp only [Bool.false_and, Bool.and_false]
    go_enter Tryd.func54, Tryd.ntmps54
    go_wp2_with fail
    go_ret
    exact ⟨rfl, unhide HB⟩
  have hd2 : decide (n ≤ 1099511627776) = true := by simp; omega
  rw [hd2]
  simp only [Bool.true_and]
  clear hd1 hd2
  by_cases k1 : k = 1
  · subst k1
    obtain ⟨q, hq⟩ : ∃ q, decide (s.size = 0) = q := ⟨_, rfl⟩
    have he := toList_empty s
    rw [hq] at he
    simp only [decide_true, Bool.true_or, Bool.true_and, show decide ((1 : Int) = 2) = false from rfl, Bool.false_and, Bool.or_false, hq]
    clear hq
    go_enter Tryd.func54, Tryd.ntmps54
    go_wp2_with fail
    go_ret
    exact ⟨by simp [he], unhide HB⟩
  by_cases k3 : k = 3
  · subst k3
    obtain ⟨q, hq⟩ : ∃ q, decide (s.size = 0) = q := ⟨_, rfl⟩
    have he := toList_empty s
    rw [hq] at he
    simp only [decide_true, Bool.or_true, Bool.true_and, show decide ((3 : Int) = 2) = false from rfl, Bool.false_and, Bool.or_false, hq]
    clear hq
    go_enter Tryd.func54, Tryd.ntmps54
    go_wp2_with fail
    go_ret
    exact ⟨by simp [he], unhide HB⟩
  by_cases k2 : k = 2
  · subst k2
    simp only [show decide ((2 : Int) = 1) = false from rfl, show decide ((2 : Int) = 3) = false from rfl, Bool.or_self, Bool.false_and, Bool.false_or, decide_true, Bool.true_and]
    rw [← rune_fits s n (by omega)]
    have HRW := hide hrow
    have HS : Hid (∀ W, Below (w.alloc (.cells #[.int .i64 2, .int .i64 n, .string s] 39)).heap.size (w.alloc (.cells #[.int .i64 2, .int .i64 n, .string s] 39)) W → (W.cell? ⟨w.heap.size, 1, none⟩ = some (.int .i64 n) ∧ W.cell? ⟨w.heap.size, 2, none⟩ = some (.string s))) := hide (fun W hW => ⟨((unhide HRW).below hW (unhide HRW).lt).cell 1, ((unhide HRW).below hW (unhide HRW).lt).cell 2⟩)
    clear hrow
    go_enter Tryd.func54, Tryd.ntmps54
    go_wp2_with fail
    obtain ⟨wA, hA⟩ : ∃ wA, (w.alloc (.cells #[.int .i64 2, .int .i64 n, .string s] 39)) = wA := ⟨_, rfl⟩
    rw [hA] at HS HB ⊢
    clear hA HRW
    have k0 : Below wA.heap.size wA wA.drew := (Below.refl _ _).drew
    refine wp_region_T (S := fun W => (W.cell? ⟨w.heap.size, 1, none⟩ = some (.int .i64 n) ∧ W.cell? ⟨w.heap.size, 2, none⟩ = some (.string s))) (fun i => decide (i < 8)) (by kernel_rfl) (unhide HS _ k0) (fun hHeld => ?_)
    refine tk 0 (v := .pointer (some ⟨w.heap.size, 2, none⟩)) rfl (Or.inl ⟨by rfl, ?_⟩) hHeld ?_
    · intro w hSw
      obtain ⟨h3, h4⟩ := hSw
      first
        | rfl
        | (go_simp; done)
    try go_frame
    refine tk 1 (v := .string s) rfl (Or.inl ⟨by rfl, ?_⟩) hHeld ?_
    · intro w hSw
      obtain ⟨h3, h4⟩ := hSw
      first
        | rfl
        | (go_simp; done)
    try go_frame
    refine tk 4 (v := .pointer (some ⟨w.heap.size, 1, none⟩)) rfl (Or.inl ⟨by rfl, ?_⟩) hHeld ?_
    · intro w hSw
      obtain ⟨h3, h4⟩ := hSw
      first
        | rfl
        | (go_simp; done)
    try go_frame
    refine tk 5 (v := .int .i64 n) rfl (Or.inl ⟨by rfl, ?_⟩) hHeld ?_
    · intro w hSw
      obtain ⟨h3, h4⟩ := hSw
      first
        | rfl
        | (go_simp; done)
    try go_frame
    refine wpAnyT_one (i := 2) (o := { dst := some 16, op := Op.convert 9 69 (Operand.tmp 15), type := 69, pos := "ref.go:22", after := #[{ on := 1, ground := Ground.data }], guard := none }) (by kernel_rfl) rfl (fun K hK => ?_)
    have hcv := Lib.run_convert_string_bytes (P := Tryd.prog) wA.drew 9 69 5 s Tryd.underlying9 Tryd.underlying69 Tryd.underlying5
    have HBY := hide (bw_bys wA.drew s)
    have HK1 := hide (k0.trans ((bw_below wA.drew s).mono k0.size))
    have HCA := hide (And.intro (grownCap_ge wA.drew s.size 0 5) (grownCap_le_maxLen wA.drew s.size 0 5 (by have := unhide HSB; unfold maxLen; omega)))
    obtain ⟨cap, hcap⟩ : ∃ z, grownCap wA.drew s.size 0 5 = z := ⟨_, rfl⟩
    obtain ⟨W1, hW1⟩ : ∃ z, Lib.bytesWorld wA.drew 5 s = z := ⟨_, rfl⟩
    obtain ⟨g, hg⟩ : ∃ z, wA.drew.heap.size = z := ⟨_, rfl⟩
    rw [hcap] at hcv HCA
    rw [hW1] at hcv HBY HK1
    rw [hg] at hcv HBY
    clear hcap hW1 hg
    go_wp2_with fail
    refine hK.out _ _ (fun _ => unhide HS _ (unhide HK1)) ?_
    clear hK K
    clear hcv
    try go_frame
    refine wpAnyT_one (i := 3) (o := { dst := some 17, op := Op.call { callee := Callee.value (Operand.func 48), args := #[Operand.tmp 16], argTypes := #[69] }, type := 3, pos := "ref.go:22", after := #[{ on := 2, ground := Ground.data }], guard := none }) (by kernel_rfl) rfl (fun K hK => ?_)
    go_simp
    refine Calls.mono (show Calls Tryd.prog 48 #[.slice (some ⟨g, 0, none⟩) s.size cap] W1 _ from by have := runes_any g cap s.data.toList W1 (unhide HBY) (by rw [← Lib.size_eq]; exact (unhide HCA).1) (unhide HCA).2 (by rw [← Lib.size_eq]; exact unhide HSB) (some ⟨g, 0, none⟩) (fun _ => rfl); rw [← Lib.size_eq] at this; exact this) ?_
    rintro r w2 ⟨rfl, rfl⟩
    obtain ⟨mz, hmz⟩ : ∃ z, runeV s.data.toList = z := ⟨_, rfl⟩
    have HMZ := hide hmz
    rw [hmz]
    clear hmz
    go_wp2_with fail
    refine hK.out _ _ (fun _ => unhide HS _ (unhide HK1)) ?_
    clear hK K
    try go_frame
    refine tk 6 (v := .bool (mz == n)) rfl (Or.inl ⟨by rfl, ?_⟩) (unhide HS _ (unhide HK1)) ?_
    · intro w hSw
      obtain ⟨h3, h4⟩ := hSw
      first
        | rfl
        | (go_simp; done)
    try go_frame
    refine tk 7 (v := .bool (mz == n)) rfl (Or.inl ⟨by rfl, ?_⟩) (unhide HS _ (unhide HK1)) ?_
    · intro w hSw
      obtain ⟨h3, h4⟩ := hSw
      first
        | rfl
        | (go_simp; done)
    try go_frame
    refine wpAnyT_done (by kernel_rfl) ?_ _
    go_wp2_with fail
    go_ret
    exact ⟨by rw [unhide HMZ] <;> rfl, (unhide HB).trans ((unhide HK1).mono (unhide HB).size)⟩
  · have d1 : decide (k = 1) = false := by simp [k1]
    have d2 : decide (k = 2) = false := by simp [k2]
    have d3 : decide (k = 3) = false := by simp [k3]
    have e1 : (k == 1) = false := by simp [k1]
    have e2 : (k == 2) = false := by simp [k2]
    have e3 : (k == 3) = false := by simp [k3]
    rw [d1, d2, d3]
    simp only [Bool.or_self, Bool.false_and]
    clear hrow
    go_enter Tryd.func54, Tryd.ntmps54
    go_wp2_with fail
    go_ret
    exact ⟨rfl, unhide HB⟩
end Go.Proofs.YtonabfpgdgnpnaaDoor

namespace Go.Proofs.YtonabfpgdgnpnaaDoor
set_option linter.unusedVariables false
set_option linter.unusedSimpArgs false
open Go.ChangeShapes Go.WideShapes Go.ChangeAt Go.RowKit Go.Joins Go.Deep

theorem chk_val (s : ByteArray) : (decide (runeV s.data.toList < 0) = true ∧ chkE s = 21) ∨ (decide (runeV s.data.toList < 0) = false ∧ decide (1024 < runeV s.data.toList) = true ∧ chkE s = 4) ∨ (decide (runeV s.data.toList < 0) = false ∧ decide (1024 < runeV s.data.toList) = false ∧ chkE s = 0) := by
  unfold runeV chkE
  cases hv : Lib.validD s.data.toList with
  | false => exact .inl ⟨by rw [if_neg (by simp)]; rfl, by simp⟩
  | true =>
    rw [if_pos rfl, Array.toArray_toList, show (⟨s.data⟩ : ByteArray) = s from rfl]
    rw [if_neg (by simp)]
    by_cases h : 1024 < Lib.runeCount s
    · exact .inr (.inl ⟨by simp, by simp; omega, by rw [if_pos h]⟩)
    · exact .inr (.inr ⟨by simp, by simp; omega, by rw [if_neg h]⟩)
set_option maxRecDepth 100000 in
set_option maxHeartbeats 4000000 in
theorem rchk_any (s : ByteArray) (w : World) (hs : s.size ≤ 1099511627776) : Calls Tryd.prog 26 #[.string s] w fun r w' => r = .returned (.int .i64 (chkE s)) ∧ Below w.heap.size w w' := by
  have hcv := Lib.run_convert_string_bytes (P := Tryd.prog) w 9 69 5 s Tryd.underlying9 Tryd.underlying69 Tryd.underlying5
  have hbw := bw_below w s
  have HBY := hide (bw_bys w s)
  have HK1 := hide hbw
  have HCA := hide (And.intro (grownCap_ge w s.size 0 5) (grownCap_le_maxLen w s.size 0 5 (by unfold maxLen; omega)))
  obtain ⟨cap, hcap⟩ : ∃ cap, grownCap w s.size 0 5 = cap := ⟨_, rfl⟩
  obtain ⟨W1, hW1⟩ : ∃ z, Lib.bytesWorld w 5 s = z := ⟨_, rfl⟩
  obtain ⟨g, hg⟩ : ∃ z, w.heap.size = z := ⟨_, rfl⟩
  rw [hcap] at hcv HCA
  rw [hW1] at hcv HBY HK1
  rw [hg] at hcv HBY
  have hsl : s.data.toList.length = s.size := by rw [Lib.size_eq]
  have KR := hide (runes_any g cap s.data.toList W1 (unhide HBY) (by rw [hsl]; exact (unhide HCA).1) (unhide HCA).2 (by rw [hsl]; omega) (some ⟨g, 0, none⟩) (fun _ => rfl))
  rw [hsl] at KR
  have hv := chk_val s
  obtain ⟨rv, hrv⟩ : ∃ z, runeV s.data.toList = z := ⟨_, rfl⟩
  rw [hrv] at KR hv
  have HG := hide hg
  clear hcap hW1 hg hbw hsl hrv
  rcases hv with ⟨h1, h2⟩ | ⟨h1, h3, h2⟩ | ⟨h1, h3, h2⟩
  · rw [h2]
    clear h2
    go_enter Tryd.func26, Tryd.ntmps26
    go_wp2_with fail
    refine Calls.mono (unhide KR) ?_
    rintro r w5 ⟨rfl, rfl⟩
    have hlt : rv < 0 := by simpa using h1
    clear h1
    go_wp2_with fail
    go_ret
    exact ⟨rfl, unhide HK1⟩
  · rw [h2]
    clear h2
    go_enter Tryd.func26, Tryd.ntmps26
    go_wp2_with fail
    refine Calls.mono (unhide KR) ?_
    rintro r w5 ⟨rfl, rfl⟩
    have hlt : ¬ rv < 0 := by simpa using h1
    have hgt : 1024 < rv := by simpa using h3
    clear h1 h3
    go_wp2_with fail
    go_ret
    exact ⟨rfl, unhide HK1⟩
  · rw [h2]
    clear h2
    go_enter Tryd.func26, Tryd.ntmps26
    go_wp2_with fail
    refine Calls.mono (unhide KR) ?_
    rintro r w5 ⟨rfl, rfl⟩
    have hlt : ¬ rv < 0 := by simpa using h1
    have hgt : ¬ 1024 < rv := by simpa using h3
    clear h1 h3
    go_wp2_with fail
    go_ret
    exact ⟨rfl, unhide HK1⟩
end Go.Proofs.YtonabfpgdgnpnaaDoor

namespace Go.Proofs.YtonabfpgdgnpnaaDoor
set_option linter.unusedVariables false
set_option linter.unusedSimpArgs false
open Go.ChangeShapes Go.WideShapes Go.ChangeAt Go.RowKit Go.Joins Go.Deep

theorem infoRu : ∃ i, Tryd.prog.info? 21 = some i ∧ i.zero = some (.int .i32 0) ∧ i.size = 1 ∧ i.bytes = 4 := info_parts (by kernel_rfl)
theorem dec_wide (s : ByteArray) {p : Nat} (h : p < s.size) : 1 ≤ (Utf8.decode s p).2 ∧ p + (Utf8.decode s p).2 ≤ s.size := by
  rw [Lib.decode_N]
  have hl : s.data.toList.length = s.size := by rw [Lib.size_eq]
  have := decN_width (s.data.toList.length - p) (s.data.toList.getD p 0).toNat (s.data.toList.getD (p + 1) 0).toNat (s.data.toList.getD (p + 2) 0).toNat (s.data.toList.getD (p + 3) 0).toNat (by omega)
  omega
/-- what stands behind a text's beginning, as code points -/
def Upto (s : ByteArray) (p : Nat) (l : List Value) : Prop := ∀ cs, Tx s cs → ∃ i, i ≤ cs.length ∧ p = placeOf cs i ∧ l = rnv (cs.take i)
theorem Upto.start (s : ByteArray) : Upto s 0 [] := fun cs _ => ⟨0, by omega, by rw [placeOf_zero], rfl⟩
theorem Upto.next {s : ByteArray} {p : Nat} {l : List Value} (h : Upto s p l) (hp : p < s.size) : Upto s (p + (Utf8.decode s p).2) (l ++ [.int .i32 ((Utf8.decode s p).1 : Int)]) := fun cs hx => by
  obtain ⟨i, hi, rfl, rfl⟩ := h cs hx
  have hlt : i < cs.length := by
    rcases Nat.lt_or_eq_of_le hi with h1 | h1
    · exact h1
    · exfalso
      rw [hx.size, h1] at hp
      unfold placeOf at hp
      rw [List.take_length] at hp
      omega
  refine ⟨i + 1, hlt, (placeOf_next hx hlt).1.symm, ?_⟩
  have hc : cs[i]? = some cs[i] := List.getElem?_eq_getElem hlt
  rw [List.take_add_one, hc, rn_at hx hc]
  unfold rnv
  rw [List.map_append]
  rfl
theorem Upto.ends {s : ByteArray} {p : Nat} {l : List Value} (h : Upto s p l) (hp : ¬ p < s.size) {cs : List (List UInt8)} (hx : Tx s cs) : l = rnv cs := by
  obtain ⟨i, hi, rfl, rfl⟩ := h cs hx
  rcases Nat.lt_or_eq_of_le hi with h1 | h1
  · exact absurd (placeOf_next hx h1).2 hp
  · rw [h1, List.take_length]
structure ChI (w wr : World) (s : ByteArray) (p n : Nat) (v : Value) (l : List Value) : Prop where
  it : wr.heap[w.heap.size]? = some (.stringIter s p)
  own : wr.ownsRow w.heap.size 21 1 v n l
  bel : Below w.heap.size w wr
  up : Upto s p l
  le : n ≤ p
  ps : p ≤ s.size
theorem ChI.pos {w wr : World} {s : ByteArray} {p n : Nat} {v : Value} {l : List Value} (h : ChI w wr s p n v l) : wr.iterPos w.heap.size = p := by unfold World.iterPos; rw [h.it]
theorem own_it {w : World} {B n : Nat} {v : Value} {l : List Value} (h : w.ownsRow B 21 1 v n l) {k : Nat} {s : ByteArray} {pos : Nat} (hk : w.heap[k]? = some (.stringIter s pos)) : v.ownBlock ≠ some k := by
  intro e
  rcases h.2 with ⟨rfl, _⟩ | ⟨g, c, cur, rfl, _, e', _⟩
  · cases e
  · obtain rfl : g = k := by simpa [Value.ownBlock] using e
    rw [hk] at e'
    cases e'
theorem ChI.next {w wr : World} {s : ByteArray} {p n : Nat} {v : Value} {l : List Value} (h : ChI w wr s p n v l) :
    (wr.iterAt w.heap.size s (p + (Utf8.decode s p).2)).heap[w.heap.size]? = some (.stringIter s (p + (Utf8.decode s p).2)) ∧ (wr.iterAt w.heap.size s (p + (Utf8.decode s p).2)).ownsRow w.heap.size 21 1 v n l ∧ Below w.heap.size w (wr.iterAt w.heap.size s (p + (Utf8.decode s p).2)) := by
  refine ⟨Lib.iterAt_heap _ _ _ _ _ h.it, ?_, Lib.below_iterAt h.bel (Nat.le_refl _) _ _⟩
  have hne := own_it h.own h.it
  obtain ⟨h1, h2⟩ := h.own
  refine ⟨h1, ?_⟩
  rcases h2 with h2 | ⟨g, c, cur, e1, e2, e3, e4⟩
  · exact .inl h2
  · refine .inr ⟨g, c, cur, e1, e2, ?_, e4⟩
    rw [Lib.iterAt_other _ _ _ _ _ (fun e => hne (by rw [e1, e]; rfl))]
    exact e3
def RChR (s : ByteArray) (w : World) (r : Ending) (w' : World) : Prop := ∃ v n l, r = .returned v ∧ w'.ownsRow w.heap.size 21 1 v n l ∧ (∀ cs, Tx s cs → l = rnv cs ∧ n = cs.length) ∧ n ≤ s.size ∧ Below w.heap.size w w'
set_option maxRecDepth 100000 in
set_option maxHeartbeats 4000000 in
theorem rchars_any (s : ByteArray) (w : World) (hs : s.size ≤ 1099511627776) :
    Calls Tryd.prog 32 #[.string s] w fun r w' => RChR s w r w' := by
  go_enter Tryd.func32, Tryd.ntmps32
  go_wp2_with fail
  go_loopw [3] (fun v wr => ∃ (p n : Nat) (a : Option Addr) (c : Nat) (l : List Value), v = .slice a n c ∧ Hid (ChI w wr s p n v l)) (fun _ wr => s.size - wr.iterPos w.heap.size)
  case atStart =>
    exact ⟨0, 0, none, 0, [], rfl, hide ⟨World.iter_heap w s 0, World.ownsRow_nil _ _ _ _, (Below.refl _ _).alloc (Nat.le_refl _) (.stringIter s 0), Upto.start s, by omega, by omega⟩⟩
  case round =>
    obtain ⟨p, n, a, c, l, rfl, HC⟩ := hrel
    have HPO := hide (unhide HC).pos
    by_cases hlt : p < s.size
    · have hnx := Lib.run_next_any_at (P := Tryd.prog) wr w.heap.size s p 0 (unhide HC).it hlt
      have HNX := hide (unhide HC).next
      have HUP := hide (And.intro ((unhide HC).up.next hlt) (And.intro (dec_wide s hlt) (unhide HC).le))
      obtain ⟨q, hq⟩ : ∃ z, p + (Utf8.decode s p).2 = z := ⟨_, rfl⟩
      obtain ⟨wi, hwi⟩ : ∃ z, wr.iterAt w.heap.size s (p + (Utf8.decode s p).2) = z := ⟨_, rfl⟩
      rw [hwi] at hnx HNX
      rw [hq] at HNX HUP
      have HQ : Hid (p < q) := hide (by rw [← hq]; have := (dec_wide s hlt).1; omega)
      obtain ⟨rv, hrv⟩ : ∃ z, (Utf8.decode s p).1 = z := ⟨_, rfl⟩
      rw [hrv] at hnx HUP
      clear hwi hrv hq
      have hbA : Below wi.heap.size wi (wi.alloc (.cells #[.int .i32 (rv : Int)] 21)) := (Below.refl _ _).alloc (Nat.le_refl _) _
      have HOA := hide (own_call (unhide HNX).2.1 hbA)
      have HIA : Hid ((wi.alloc (.cells #[.int .i32 (rv : Int)] 21)).heap[w.heap.size]? = some (.stringIter s q)) := hide (by rw [hbA.block _ (Array.getElem?_eq_some_iff.1 (unhide HNX).1).1]; exact (unhide HNX).1)
      have HBA := hide ((unhide HNX).2.2.trans (hbA.mono (unhide HNX).2.2.size))
      have HRA := hide (RowAt.new wi 21 [.int .i32 (rv : Int)])
      have hn1 : n ≤ 1099511627776 := by have := (unhide HC).le; omega
      clear hbA HC HNX
      go_wp2_with (at_builtin; refine unhide ?_)
      obtain ⟨i9, hi9, hz9, hs9, hb9⟩ := infoRu
      refine hide ?_
      refine wpList_append_own_at _ rfl _ _ 54 rfl w.heap.size 21 i9 (.int .i32 0) 1 4 Tryd.underlying54 hi9 hz9 hs9 hb9 rfl (by decide) (.slice a n c) n l rfl (unhide HOA) ⟨wi.heap.size, 0, none⟩ 1 1 [.int .i32 (rv : Int)] rfl rfl (fun j u hj => by
        match j, hj with
        | 0, hj =>
          obtain rfl : (.int .i32 (rv : Int) : Value) = u := by simpa using hj
          exact (unhide HRA).cell 0) (fun u hu => by rw [List.mem_singleton] at hu; rw [hu]; rfl) (by unfold maxLen; omega) (by omega) (unhide HBA).size ?_
      intro v' w3 hv hgr _ _
      have ho := grown_only hgr
      obtain ⟨a3, c3, rfl, _, _⟩ := own_sl hv
      have HO3 := hide hv
      have hne := own_it (unhide HOA) (unhide HIA)
      have HI3 : Hid (w3.heap[w.heap.size]? = some (.stringIter s q)) := hide (by rw [ho.block _ (Array.getElem?_eq_some_iff.1 (unhide HIA)).1 hne]; exact unhide HIA)
      have HB3 := hide ((unhide HBA).trans (ho.below (unhide HBA).size (fun k hk => ((unhide HOA).lt k hk).1)))
      clear hv ho hgr HOA HIA HBA HRA hne hnx i9 hi9 hz9 hs9 hb9
      go_wp2_with fail
      refine ⟨⟨q, n + 1, a3, c3, _, rfl, hide ⟨unhide HI3, unhide HO3, unhide HB3, (unhide HUP).1, by have := (unhide HUP).2.2; have := unhide HQ; omega, (unhide HUP).2.1.2⟩⟩, ?_⟩
      have p3 : w3.iterPos w.heap.size = q := by unfold World.iterPos; rw [unhide HI3]
      rw [p3, unhide HPO]
      have := unhide HQ
      omega
    · have hnx := Lib.run_next_end_at (P := Tryd.prog) wr w.heap.size s p 0 (unhide HC).it hlt
      have HE : Hid (∀ cs, Tx s cs → l = rnv cs ∧ n = cs.length) := hide (fun cs hx => by
        have e := (unhide HC).up.ends hlt hx
        refine ⟨e, ?_⟩
        have h1 := (unhide HC).own.1
        rw [e, rnv_len] at h1
        omega)
      have HNS : Hid (n ≤ s.size) := hide (Nat.le_trans (unhide HC).le (unhide HC).ps)
      have HO1 := hide (unhide HC).own
      have HK1 := hide (unhide HC).bel
      clear HC HPO
      go_wp2_with fail
      go_ret
      exact ⟨_, _, _, rfl, unhide HO1, unhide HE, unhide HNS, unhide HK1⟩
set_option maxRecDepth 100000 in
set_option maxHeartbeats 4000000 in
theorem rall_any (B : Nat) (v : Value) (l : List ByteArray) (w : World) (h : w.ownsRow B 9 1 v l.length (l.map .string)) (hl : l.length ≤ 1000) (hs : ∀ s ∈ l, s.size ≤ 1099511627776) : Calls Tryd.prog 31 #[v] w fun r w' => r = .returned (.int .i64 (firstE l)) ∧ Below w.heap.size w w' := by
  obtain ⟨a, c, rfl, hc, hcm⟩ := own_sl h
  have HO := hide h
  obtain ⟨n, hn⟩ : ∃ z, l.length = z := ⟨_, rfl⟩
  have HN := hide hn
  rw [hn] at HO hl hc ⊢
  clear h hn
  go_enter Tryd.func31, Tryd.ntmps31
  go_wp2_with fail
  go_loopw [8] (fun iv wr => ∃ k : Nat, k ≤ n ∧ iv = .int .i64 (k : Int) ∧ Hid (AllOk l k) ∧ Hid (Below w.heap.size w wr)) (fun iv _ => ((n : Int) - intOf iv).toNat)
  case atStart => exact ⟨0, by omega, by simp, hide (AllOk.zero l), hide (Below.refl _ _)⟩
  case round =>
    obtain ⟨k, hk, rfl, HA, HB⟩ := hrel
    by_cases c1 : (k : Int) < (n : Int)
    · obtain ⟨s, hsk⟩ : ∃ s, l[k]? = some s := ⟨_, List.getElem?_eq_getElem (by rw [unhide HN]; omega)⟩
      obtain ⟨g, cg, e, hcell, _, _, _⟩ := own_rd (own_call (unhide HO) (unhide HB)) (show (l.map Value.string)[k]? = some (.string s) by simp [hsk])
      injection e with e1 _ e3
      subst e1 e3
      have KC := hide (rchk_any s wr (hs s (List.mem_of_getElem? hsk)))
      have HS := hide hsk
      have k0 : (0 : Int) ≤ (k : Int) := by omega
      obtain ⟨u, hu⟩ : ∃ z, chkE s = z := ⟨_, rfl⟩
      have HUU := hide hu
      rw [hu] at KC
      clear hsk hu
      go_wp2_with fail
      refine Calls.mono (unhide KC) ?_
      rintro r w2 ⟨rfl, b2⟩
      have B2 := hide ((unhide HB).trans (b2.mono (unhide HB).size))
      clear b2 KC
      by_cases hu0 : u = 0
      · subst hu0
        have HA2 := hide ((unhide HA).next (unhide HS) (unhide HUU))
        go_wp2_with fail
        exact ⟨⟨k + 1, by omega, by simp, HA2, B2⟩, by simp [intOf]; omega⟩
      · have hf : firstE l = u := (first_at (unhide HA) (unhide HS) (by rw [unhide HUU]; exact hu0)).trans (unhide HUU)
        have HF := hide hf
        clear hf
        go_wp2_with fail
        go_ret
        exact ⟨by rw [unhide HF]; rfl, unhide B2⟩
    · obtain rfl : n = k := by omega
      have HF := hide (first_all (l := l) (by rw [unhide HN]; exact unhide HA))
      go_wp2_with fail
      go_ret
      exact ⟨by rw [unhide HF]; rfl, unhide HB⟩
end Go.Proofs.YtonabfpgdgnpnaaDoor

namespace Go.Proofs.YtonabfpgdgnpnaaDoor
set_option linter.unusedVariables false
set_option linter.unusedSimpArgs false
open Go.ChangeShapes Go.WideShapes Go.ChangeAt Go.RowKit Go.Joins Go.Deep

theorem nsv_set (l : List Nat) (i n : Nat) : (nsv l).set i (.int .i64 (n : Int)) = nsv (l.set i n) := by simp [nsv, List.map_set]
theorem nsv_rep (n : Nat) : nsv (List.replicate n 0) = List.replicate n (.int .i64 0) := by simp [nsv]
theorem nsv_get {l : List Nat} {i a : Nat} (h : l[i]? = some a) : (nsv l)[i]? = some (.int .i64 (a : Int)) := by simp [nsv, h]
/-- a row of the document's table: of place p, how many can be kept from there on -/
def lrow (x y : List CP) (p : Nat) : List Nat := (List.range (y.length + 1)).map fun j => lcs (x.drop p) (y.drop j)
theorem lrow_len (x y : List CP) (p : Nat) : (lrow x y p).length = y.length + 1 := by simp [lrow]
theorem lrow_at {x y : List CP} {p j : Nat} (h : j ≤ y.length) : (lrow x y p)[j]? = some (lcs (x.drop p) (y.drop j)) := by
  unfold lrow
  rw [List.getElem?_map, List.getElem?_range (by omega)]
  rfl
def LRI (x y : List CP) (p k : Nat) (R : List Nat) : Prop := R.length = y.length + 1 ∧ ∀ j, k ≤ j → j ≤ y.length → R[j]? = some (lcs (x.drop p) (y.drop j))
theorem LRI.start (x y : List CP) (p : Nat) : LRI x y p y.length (List.replicate (y.length + 1) 0) := ⟨by simp, fun j h1 h2 => by
  rw [List.getElem?_replicate, if_pos (by omega), show j = y.length by omega, List.drop_length, lcs_nil_right]⟩
theorem LRI.done {x y : List CP} {p : Nat} {R : List Nat} (h : LRI x y p 0 R) : R = lrow x y p := by
  apply List.ext_getElem?
  intro j
  by_cases hj : j ≤ y.length
  · rw [h.2 j (by omega) hj, lrow_at hj]
  · rw [List.getElem?_eq_none (by rw [h.1]; omega), List.getElem?_eq_none (by rw [lrow_len]; omega)]
theorem LRI.put {x y : List CP} {p k v : Nat} {R : List Nat} (h : LRI x y p (k + 1) R) (hk : k < y.length) (hv : v = lcs (x.drop p) (y.drop k)) : LRI x y p k (R.set k v) := by
  refine ⟨by rw [List.length_set]; exact h.1, fun j h1 h2 => ?_⟩
  by_cases e : k = j
  · subst e
    rw [List.getElem?_set_self (by rw [h.1]; omega), hv]
  · rw [List.getElem?_set_ne e]
    exact h.2 j (by omega) h2
theorem lcs_miss {x y : List CP} {p k : Nat} {c d : CP} (hc : x[p]? = some c) (hd : y[k]? = some d) (h : c ≠ d) : max (lcs (x.drop (p + 1)) (y.drop k)) (lcs (x.drop p) (y.drop (k + 1))) = lcs (x.drop p) (y.drop k) := by
  obtain ⟨h1, e1⟩ := List.getElem?_eq_some_iff.1 hc
  obtain ⟨h2, e2⟩ := List.getElem?_eq_some_iff.1 hd
  rw [List.drop_eq_getElem_cons h1, List.drop_eq_getElem_cons h2, e1, e2, lcs_ne h]
theorem lcs_hit {x y : List CP} {p k : Nat} {c : CP} (hc : x[p]? = some c) (hd : y[k]? = some c) : max (max (lcs (x.drop (p + 1)) (y.drop k)) (lcs (x.drop p) (y.drop (k + 1)))) (lcs (x.drop (p + 1)) (y.drop (k + 1)) + 1) = lcs (x.drop p) (y.drop k) := by
  obtain ⟨h1, e1⟩ := List.getElem?_eq_some_iff.1 hc
  obtain ⟨h2, e2⟩ := List.getElem?_eq_some_iff.1 hd
  rw [List.drop_eq_getElem_cons h1, List.drop_eq_getElem_cons h2, e1, e2, lcs_eq]
  have a1 := (lcs_right c (x.drop (p + 1)) (y.drop (k + 1))).2
  have a2 := (lcs_left c (x.drop (p + 1)) (y.drop (k + 1))).2
  omega
def TX (x y : List CP) (X : List (List Nat)) (p : Nat) : Prop := X.length = x.length + 1 - p ∧ ∀ r, p + r ≤ x.length → X[r]? = some (lrow x y (p + r))
theorem TX.start (x y : List CP) : TX x y [List.replicate (y.length + 1) 0] x.length := by
  refine ⟨by simp, fun r h => ?_⟩
  obtain rfl : r = 0 := by omega
  have : List.replicate (y.length + 1) 0 = lrow x y x.length := by
    apply List.ext_getElem?
    intro j
    by_cases hj : j ≤ y.length
    · rw [List.getElem?_replicate, if_pos (by omega), lrow_at hj, List.drop_length, lcs_nil_left]
    · rw [List.getElem?_eq_none (by simp; omega), List.getElem?_eq_none (by rw [lrow_len]; omega)]
  rw [this]
  rfl
theorem TX.next {x y : List CP} {X : List (List Nat)} {p : Nat} (h : TX x y X (p + 1)) (hp : p < x.length) : TX x y (lrow x y p :: X) p := by
  refine ⟨by rw [List.length_cons, h.1]; omega, fun r hr => ?_⟩
  cases r with
  | zero => rfl
  | succ r =>
    rw [List.getElem?_cons_succ, h.2 r (by omega), show p + 1 + r = p + (r + 1) by omega]
/-- rows of rows of numbers -/
structure RR (w : World) (B : Nat) (v : Value) (vs : List Value) (X : List (List Nat)) : Prop where
  own : w.ownsRow B 59 1 v X.length vs
  each : ∀ (i : Nat) u x, vs[i]? = some u → X[i]? = some x → w.ownsRow B 3 1 u x.length (nsv x)
theorem RR.len {w : World} {B : Nat} {v : Value} {vs : List Value} {X : List (List Nat)} (h : RR w B v vs X) : vs.length = X.length := by have := h.own.1; omega
theorem RR.call {w w' : World} {B : Nat} {v : Value} {vs : List Value} {X : List (List Nat)} (h : RR w B v vs X) (hb : Below w.heap.size w w') : RR w' B v vs X := ⟨own_call h.own hb, fun i u x h1 h2 => own_call (h.each i u x h1 h2) hb⟩
theorem RR.at_ {w : World} {B : Nat} {v : Value} {vs : List Value} {X : List (List Nat)} (h : RR w B v vs X) {i : Nat} {x : List Nat} (hx : X[i]? = some x) : ∃ u, vs[i]? = some u ∧ w.ownsRow B 3 1 u x.length (nsv x) := by
  obtain ⟨u, hu⟩ : ∃ u, vs[i]? = some u := ⟨_, List.getElem?_eq_getElem (by rw [h.len]; exact (List.getElem?_eq_some_iff.1 hx).1)⟩
  exact ⟨u, hu, h.each i u x hu hx⟩
theorem info59 : ∃ i, Tryd.prog.info? 59 = some i ∧ i.zero = some (.slice none 0 0) ∧ i.size = 1 ∧ i.bytes = 24 := info_parts (by kernel_rfl)
theorem mk_nums (w : World) (m : Nat) (hm : m ≤ 1048576) : ∃ w1, (Instr.makeSlice 59 (.int .i64 (m : Int)) (.int .i64 (m : Int))).run Tryd.prog w = .ok (.slice (some ⟨w.heap.size, 0, none⟩) m m) w1 ∧ w1.ownsRow w.heap.size 3 1 (.slice (some ⟨w.heap.size, 0, none⟩) m m) m (nsv (List.replicate m 0)) ∧ Below w.heap.size w w1 := by
  obtain ⟨w1, hmk, hr1, hg1⟩ := run_make_full (P := Tryd.prog) w w.heap.size 59 3 (Classical.choose info64) (.int .i64 0) 1 Tryd.underlying59 (Classical.choose_spec info64).1 (Classical.choose_spec info64).2.1 (Classical.choose_spec info64).2.2.1 .i64 .i64 m (by rw [(Classical.choose_spec info64).2.2.2]; omega) (by unfold maxLen; omega) (Nat.le_refl _)
  refine ⟨w1, by simpa using hmk, ?_, (grown_only hg1).below (Nat.le_refl _) (fun k hk => by cases hk)⟩
  rw [nsv_rep]
  have e : (madeCells (Value.int .i64 0).cells (m * 1)).toList = List.replicate m (.int .i64 0) := by
    refine List.eq_replicate_iff.2 ⟨by simp [madeCells], fun v hv => ?_⟩
    simp [madeCells, Value.cells, Nat.mod_one] at hv
    first | exact hv.symm | exact hv | (obtain ⟨_, hv⟩ := hv; exact hv.symm) | (obtain ⟨_, hv⟩ := hv; exact hv) | simp_all
  rw [e] at hr1
  exact hr1
/-- a row that is being filled, in a block that world w2 doesn't know -/
structure IW (w2 wr : World) (g m : Nat) (R : List Nat) : Prop where
  own : wr.ownsRow w2.heap.size 3 1 (.slice (some ⟨g, 0, none⟩) m m) m (nsv R)
  bel : Below w2.heap.size w2 wr
  gB : w2.heap.size ≤ g
theorem IW.set {w2 wr : World} {g m : Nat} {R : List Nat} (h : IW w2 wr g m R) {i : Nat} (hi : i < m) (n : Nat) : IW w2 (wr.setCell ⟨g, i, none⟩ (.int .i64 (n : Int))) g m (R.set i n) := by
  refine ⟨?_, h.bel.setCell (by show w2.heap.size ≤ g; exact h.gB) _, h.gB⟩
  have := own_set h.own i (.int .i64 (n : Int)) hi
  rw [nsv_set] at this
  exact this
theorem IW.drew {w2 wr : World} {g m : Nat} {R : List Nat} (h : IW w2 wr g m R) : IW w2 wr.drew g m R := ⟨own_call h.own (Below.refl _ _).drew, h.bel.trans ((Below.refl _ _).drew.mono h.bel.size), h.gB⟩
end Go.Proofs.YtonabfpgdgnpnaaDoor
