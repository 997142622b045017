/- The document's Runes. -/
import Derived.Test.YtonabfpgdgnpnaaDoorRu0
import Derived.Test.YtonabfpgdgnpnaaDoorFit
import Derived.Deep.LoopGhost
namespace Go.Proofs.YtonabfpgdgnpnaaDoor
set_option linter.unusedVariables false
set_option linter.unusedSimpArgs false
open Go.ChangeShapes Go.WideShapes Go.ChangeAt Go.RowKit Go.Joins Go.Deep

/-- these bytes lie there -/
def BysAt (w : World) (g : Nat) (bs : List UInt8) : Prop := ∀ (j : Nat) (b : UInt8), bs[j]? = some b → w.cell? ⟨g, j, none⟩ = some (.int .u8 (b.toNat : Int))
theorem BysAt.call {w w' : World} {g : Nat} {bs : List UInt8} (h : BysAt w g bs) (hg : g < w.heap.size) (hb : Below w.heap.size w w') : BysAt w' g bs := fun j b hj => by
  rw [hb.cell (p := ⟨g, _, none⟩) hg]; exact h j b hj
def runeV (bs : List UInt8) : Int := if Lib.validD bs = true then (Lib.runeCount ⟨bs.toArray⟩ : Int) else -1
/-- the bytes from m before the end on begin with a code point of k bytes -/
def bAt (bs : List UInt8) (j : Nat) : Nat := (bs.getD j 0).toNat
def WfAt (bs : List UInt8) (m : Nat) : Prop := Wf m (bAt bs (bs.length - m)) (bAt bs (bs.length - m + 1)) (bAt bs (bs.length - m + 2)) (bAt bs (bs.length - m + 3))
theorem bAt_lt (bs : List UInt8) (j : Nat) : bAt bs j < 256 := by unfold bAt; exact UInt8.toNat_lt _
theorem dec_at (bs : List UInt8) {m : Nat} (hm : m ≤ bs.length) : Lib.decodeL (bs.drop (bs.length - m)) = Lib.decodeN m (bAt bs (bs.length - m)) (bAt bs (bs.length - m + 1)) (bAt bs (bs.length - m + 2)) (bAt bs (bs.length - m + 3)) := by
  rw [Lib.decodeL_N]
  unfold bAt
  simp only [List.getD_eq_getElem?_getD, List.getElem?_drop, List.length_drop, Nat.add_zero]
  rw [show bs.length - (bs.length - m) = m by omega]
/-- how far Runes has come -/
structure RI (bs : List UInt8) (m n : Nat) : Prop where
  le : m ≤ bs.length
  pre : ∃ cs, Cps cs ∧ bs = cs.flatten ++ bs.drop (bs.length - m) ∧ cs.length = n
theorem RI.fail {bs : List UInt8} {m n : Nat} (h : RI bs m n) (hm : 0 < m) (hw : ¬ WfAt bs m) : runeV bs = -1 := by
  obtain ⟨cs, h1, h2, h3⟩ := h.pre
  have hv : Lib.validD bs = Lib.validD (bs.drop (bs.length - m)) := by
    have := valid_pre cs (bs.drop (bs.length - m)) h1
    rw [← h2] at this
    exact this
  have hne : bs.drop (bs.length - m) ≠ [] := by
    intro e
    have h5 := congrArg List.length e
    rw [List.length_drop, List.length_nil] at h5
    have := h.le
    omega
  have hd := (wf_dec (bAt_lt bs _) (bAt_lt bs _) (bAt_lt bs _) (bAt_lt bs _) hm).2 hw
  rw [← dec_at bs h.le] at hd
  unfold runeV
  rw [hv, Lib.validD_step _ hne, if_pos hd]
  rfl
theorem RI.next {bs : List UInt8} {m n : Nat} (h : RI bs m n) (hm : 0 < m) (hw : WfAt bs m) : RI bs (m - wfK (bAt bs (bs.length - m))) (n + 1) ∧ wfK (bAt bs (bs.length - m)) ≤ m := by
  obtain ⟨cs, h1, h2, h3⟩ := h.pre
  have hd := (wf_dec (bAt_lt bs _) (bAt_lt bs _) (bAt_lt bs _) (bAt_lt bs _) hm).1 hw
  rw [← dec_at bs h.le] at hd
  obtain ⟨k, hk⟩ : ∃ k, wfK (bAt bs (bs.length - m)) = k := ⟨_, rfl⟩
  rw [hk] at hd ⊢
  have hkm : k ≤ m := by rw [← hk]; exact hw.2.1
  have hne : bs.drop (bs.length - m) ≠ [] := by
    intro e
    have h5 := congrArg List.length e
    rw [List.length_drop, List.length_nil] at h5
    have := h.le
    omega
  have hcp := cp_take hne hd.1
  rw [hd.2] at hcp
  have hle := h.le
  refine ⟨⟨by omega, cs ++ [(bs.drop (bs.length - m)).take k], h1.append (Cps.cons hcp Cps.nil), ?_, by simp [h3]⟩, hkm⟩
  rw [List.flatten_append, List.append_assoc]
  simp only [List.flatten_cons, List.flatten_nil, List.append_nil]
  have e : bs.drop (bs.length - (m - k)) = (bs.drop (bs.length - m)).drop k := by rw [List.drop_drop]; congr 1; omega
  rw [e, List.take_append_drop]
  exact h2
theorem RI.ends {bs : List UInt8} {n : Nat} (h : RI bs 0 n) : runeV bs = (n : Int) := by
  obtain ⟨cs, h1, h2, h3⟩ := h.pre
  simp at h2
  have hx : Tx ⟨bs.toArray⟩ cs := ⟨h1, by simpa using h2⟩
  have hv := hx.valid
  simp only at hv
  unfold runeV
  rw [if_pos (by simpa using hv), hx.count, h3]
def mlen : Value → Nat
  | .slice _ n _ => n
  | _ => 0
set_option maxRecDepth 100000 in
set_option maxHeartbeats 4000000 in
theorem runes_any (g cap : Nat) (bs : List UInt8) (w : World) (hb : BysAt w g bs) (hc : bs.length ≤ cap) (hm : cap ≤ maxLen) (hl : bs.length ≤ 281474976710656) (ao : Option Addr) (ha : bs ≠ [] → ao = some ⟨g, 0, none⟩) :
    Calls Tryd.prog 48 #[.slice ao bs.length cap] w fun r w' => r = .returned (.int .i64 (runeV bs)) ∧ w = w' := by
  have HBY := hide hb
  have HR0 : Hid (RI bs bs.length 0) := hide ⟨Nat.le_refl _, [], Cps.nil, by simp, rfl⟩
  have HA := hide ha
  obtain ⟨bl, hbl⟩ : ∃ z, bs.length = z := ⟨_, rfl⟩
  rw [hbl] at hc hl HR0 ⊢
  have HBL := hide hbl
  clear hb ha hbl
  go_enter Tryd.func48, Tryd.ntmps48
  go_wp2_with fail
  go_loopw [0, 3] (fun bv nv wr => w = wr ∧ ∃ (m n cc : Nat) (a : Option Addr), bv = .slice a m cc ∧ nv = .int .i64 (n : Int) ∧ m ≤ cc ∧ cc ≤ cap ∧ n + m ≤ bl ∧ Hid (m ≠ 0 → a = some ⟨g, bl - m, none⟩) ∧ Hid (RI bs m n)) (fun b _ _ => mlen b)
  case atStart => exact ⟨rfl, bl, 0, cap, ao, rfl, by simp, hc, by omega, by omega, hide (fun h => by rw [unhide HA (fun e => h (by rw [← unhide HBL, e]; rfl))]; simp), HR0⟩
  case round =>
    obtain ⟨rfl, m, n, cc, a, rfl, rfl, hmc, hcc, hnm, HAD, HRI⟩ := hrel
    by_cases hm0 : 0 < m
    · have hmI : (0 : Int) < (m : Int) := by omega
      obtain rfl := unhide HAD (by omega)
      obtain ⟨c0, hc0⟩ : ∃ z, bAt bs (bs.length - m) = z := ⟨_, rfl⟩
      have hc256 : c0 < 256 := by rw [← hc0]; exact bAt_lt _ _
      have hcI : (c0 : Int) < 256 := by omega
      have HC0 := hide hc0
      have ec : w.cell? ⟨g, bl - m, none⟩ = some (.int .u8 (c0 : Int)) := by
        obtain ⟨x, hx⟩ : ∃ x, bs[bs.length - m]? = some x := ⟨_, List.getElem?_eq_getElem (by have := (unhide HRI).le; omega)⟩
        have h1 := unhide HBY _ x hx
        rw [← hc0, ← unhide HBL]
        unfold bAt
        rw [List.getD_eq_getElem?_getD, hx]
        exact h1
      clear hc0
      by_cases k1 : (c0 : Int) < 128
      · have HKV : Hid (wfK c0 = 1) := hide (by unfold wfK; rw [if_pos (by omega)])
        have HLO : Hid (wfLo c0 = 128) := hide (by unfold wfLo; split; omega; split <;> omega)
        have HHI : Hid (wfHi c0 = 191) := hide (by unfold wfHi; split; omega; split <;> omega)
        by_cases hln : (m : Int) < 1
        · have HF : Hid (runeV bs = -1) := hide ((unhide HRI).fail hm0 (fun q => by have h1 := q.2.1; rw [unhide HC0, unhide HKV] at h1; omega))
          go_wp2_with fail
          go_ret
          exact ⟨by rw [unhide HF] <;> rfl, rfl⟩
        · have hlnN : 1 ≤ m := by omega
          have HWN : Hid (∀ z : WfAt bs m, ∀ j, 1 ≤ j → j < 1 → ¬ ((if j = 1 then 128 else 128) ≤ bAt bs (bs.length - m + j) ∧ bAt bs (bs.length - m + j) ≤ (if j = 1 then 191 else 191)) → False) := hide (fun z j h1 h2 hno => by
            unfold WfAt Wf at z
            rw [unhide HC0, unhide HKV, unhide HLO, unhide HHI] at z
            obtain ⟨_, _, z1, z2, z3⟩ := z
            apply hno
            match j, h1, h2 with
            | 0, h1, _ => omega
            | j + 1, _, h2 => omega
            )
          have HWY : Hid ((∀ j, 1 ≤ j → j < 1 → (if j = 1 then 128 else 128) ≤ bAt bs (bs.length - m + j) ∧ bAt bs (bs.length - m + j) ≤ (if j = 1 then 191 else 191)) → WfAt bs m) := hide (fun hall => by
            unfold WfAt Wf
            rw [unhide HC0, unhide HKV, unhide HLO, unhide HHI]
            exact ⟨by omega, by omega, (fun h => by omega), (fun h => by omega), (fun h => by omega)⟩)
          go_wp2_with fail
          go_loopw [5, 6, 8] (fun lv hv i wr => w = wr ∧ ∃ q : Nat, 1 ≤ q ∧ q ≤ 1 ∧ i = .int .i64 (q : Int) ∧ lv = .int .u8 (if q = 1 then 128 else 128) ∧ hv = .int .u8 (if q = 1 then 191 else 191) ∧ Hid (∀ j, 1 ≤ j → j < q → (if j = 1 then 128 else 128) ≤ bAt bs (bs.length - m + j) ∧ bAt bs (bs.length - m + j) ≤ (if j = 1 then 191 else 191))) (fun _ _ i _ => ((1 : Int) - intOf i).toNat)
          case atStart => exact ⟨rfl, 1, by omega, by omega, by simp, by simp, by simp, hide (fun j h1 h2 => by omega)⟩
          case round =>
            obtain ⟨rfl, q, hq1, hqK, rfl, rfl, rfl, HOK⟩ := hrel
            by_cases hqlt : (q : Int) < 1
            · have hqm : (q : Int) < (m : Int) := by omega
              obtain ⟨cj, hcj⟩ : ∃ z, bAt bs (bs.length - m + q) = z := ⟨_, rfl⟩
              have HCJ := hide hcj
              have ej : w.cell? ⟨g, bs.length - m + q, none⟩ = some (.int .u8 (cj : Int)) := by
                obtain ⟨x, hx⟩ : ∃ x, bs[bs.length - m + q]? = some x := ⟨_, List.getElem?_eq_getElem (by have := (unhide HRI).le; omega)⟩
                have h1 := unhide HBY _ x hx
                rw [← hcj]
                unfold bAt
                rw [List.getD_eq_getElem?_getD, hx]
                exact h1
              rw [show bs.length = bl from unhide HBL] at ej
              obtain ⟨lo, hlo⟩ : ∃ z : Int, (if q = 1 then (128 : Int) else 128) = z := ⟨_, rfl⟩
              obtain ⟨hi, hhi⟩ : ∃ z : Int, (if q = 1 then (191 : Int) else 191) = z := ⟨_, rfl⟩
              rw [hlo, hhi]
              have hlob : 0 ≤ lo ∧ lo ≤ 255 := by rw [← hlo]; split <;> omega
              have hhib : 0 ≤ hi ∧ hi ≤ 255 := by rw [← hhi]; split <;> omega
              have HLOQ := hide hlo
              have HHIQ := hide hhi
              clear hlo hhi hcj
              by_cases hb1 : (cj : Int) < lo
              · have HF : Hid (runeV bs = -1) := hide ((unhide HRI).fail hm0 (fun z => unhide HWN z q (by omega) (by omega) (fun h => by have h2 := unhide HLOQ; rw [unhide HCJ] at h; split at h2 <;> split at h <;> omega)))
                go_wp2_with fail
                go_ret
                exact ⟨by rw [unhide HF] <;> rfl, rfl⟩
              · by_cases hb2 : hi < (cj : Int)
                · have HF : Hid (runeV bs = -1) := hide ((unhide HRI).fail hm0 (fun z => unhide HWN z q (by omega) (by omega) (fun h => by have h2 := unhide HHIQ; rw [unhide HCJ] at h; split at h2 <;> split at h <;> omega)))
                  go_wp2_with fail
                  go_ret
                  exact ⟨by rw [unhide HF] <;> rfl, rfl⟩
                · have HOK2 : Hid (∀ j, 1 ≤ j → j < q + 1 → (if j = 1 then 128 else 128) ≤ bAt bs (bs.length - m + j) ∧ bAt bs (bs.length - m + j) ≤ (if j = 1 then 191 else 191)) := hide (fun j h1 h2 => by
                    by_cases hj : j = q
                    · have h3 := unhide HLOQ
                      have h4 := unhide HHIQ
                      rw [hj, unhide HCJ]
                      by_cases hq1e : q = 1
                      · simp only [if_pos hq1e] at h3 h4 ⊢; omega
                      · simp only [if_neg hq1e] at h3 h4 ⊢; omega
                    · exact unhide HOK j h1 (by omega))
                  go_wp2_with fail
                  exact ⟨⟨by first | trivial | rfl, q + 1, by omega, by omega, by simp, by simp <;> omega, by simp <;> omega, HOK2⟩, by simp [intOf] <;> omega⟩
            · obtain rfl : q = 1 := by omega
              have hWF : WfAt bs m := unhide HWY (unhide HOK)
              have hnx := (unhide HRI).next hm0 hWF
              rw [unhide HC0, unhide HKV] at hnx
              have HRN := hide hnx.1
              clear hWF hnx
              obtain ⟨a2, ha2⟩ : ∃ z, (if cc = 1 then some (⟨g, bl - m, none⟩ : Addr) else some ⟨g, bl - m + 1, none⟩) = z := ⟨_, rfl⟩
              have HA2 := hide ha2
              go_wp2_with fail
              exact ⟨⟨by first | trivial | rfl, m - 1, n + 1, cc - 1, a2, by first | trivial | rfl, by first | trivial | (push_cast; rfl), by omega, by omega, by omega, hide (fun h => by have h2 := unhide HA2; rw [if_neg (by omega)] at h2; rw [← h2]; congr 2; omega), HRN⟩, by simp [mlen]; omega⟩
      · by_cases k2 : (194 : Int) ≤ (c0 : Int) ∧ (c0 : Int) ≤ 223
        · obtain ⟨k2a, k2b⟩ := k2
          have HKV : Hid (wfK c0 = 2) := hide (by unfold wfK; rw [if_neg (by omega), if_pos (by omega)])
          have HLO : Hid (wfLo c0 = 128) := hide (by unfold wfLo; split; omega; split <;> omega)
          have HHI : Hid (wfHi c0 = 191) := hide (by unfold wfHi; split; omega; split <;> omega)
          by_cases hln : (m : Int) < 2
          · have HF : Hid (runeV bs = -1) := hide ((unhide HRI).fail hm0 (fun q => by have h1 := q.2.1; rw [unhide HC0, unhide HKV] at h1; omega))
            go_wp2_with fail
            go_ret
            exact ⟨by rw [unhide HF] <;> rfl, rfl⟩
          · have hlnN : 2 ≤ m := by omega
            have HWN : Hid (∀ z : WfAt bs m, ∀ j, 1 ≤ j → j < 2 → ¬ ((if j = 1 then 128 else 128) ≤ bAt bs (bs.length - m + j) ∧ bAt bs (bs.length - m + j) ≤ (if j = 1 then 191 else 191)) → False) := hide (fun z j h1 h2 hno => by
              unfold WfAt Wf at z
              rw [unhide HC0, unhide HKV, unhide HLO, unhide HHI] at z
              obtain ⟨_, _, z1, z2, z3⟩ := z
              apply hno
              match j, h1, h2 with
              | 1, _, _ => have := z1 (by omega); simp; omega
              | 0, h1, _ => omega
              | j + 2, _, h2 => omega
              )
            have HWY : Hid ((∀ j, 1 ≤ j → j < 2 → (if j = 1 then 128 else 128) ≤ bAt bs (bs.length - m + j) ∧ bAt bs (bs.length - m + j) ≤ (if j = 1 then 191 else 191)) → WfAt bs m) := hide (fun hall => by
              unfold WfAt Wf
              rw [unhide HC0, unhide HKV, unhide HLO, unhide HHI]
              exact ⟨by omega, by omega, (fun _ => by have := hall 1 (by omega) (by omega); simpa using this), (fun h => by omega), (fun h => by omega)⟩)
            go_wp2_with fail
            go_loopw [5, 6, 8] (fun lv hv i wr => w = wr ∧ ∃ q : Nat, 1 ≤ q ∧ q ≤ 2 ∧ i = .int .i64 (q : Int) ∧ lv = .int .u8 (if q = 1 then 128 else 128) ∧ hv = .int .u8 (if q = 1 then 191 else 191) ∧ Hid (∀ j, 1 ≤ j → j < q → (if j = 1 then 128 else 128) ≤ bAt bs (bs.length - m + j) ∧ bAt bs (bs.length - m + j) ≤ (if j = 1 then 191 else 191))) (fun _ _ i _ => ((2 : Int) - intOf i).toNat)
            case atStart => exact ⟨rfl, 1, by omega, by omega, by simp, by simp, by simp, hide (fun j h1 h2 => by omega)⟩
            case round =>
              obtain ⟨rfl, q, hq1, hqK, rfl, rfl, rfl, HOK⟩ := hrel
              by_cases hqlt : (q : Int) < 2
              · have hqm : (q : Int) < (m : Int) := by omega
                obtain ⟨cj, hcj⟩ : ∃ z, bAt bs (bs.length - m + q) = z := ⟨_, rfl⟩
                have HCJ := hide hcj
                have ej : w.cell? ⟨g, bs.length - m + q, none⟩ = some (.int .u8 (cj : Int)) := by
                  obtain ⟨x, hx⟩ : ∃ x, bs[bs.length - m + q]? = some x := ⟨_, List.getElem?_eq_getElem (by have := (unhide HRI).le; omega)⟩
                  have h1 := unhide HBY _ x hx
                  rw [← hcj]
                  unfold bAt
                  rw [List.getD_eq_getElem?_getD, hx]
                  exact h1
                rw [show bs.length = bl from unhide HBL] at ej
                obtain ⟨lo, hlo⟩ : ∃ z : Int, (if q = 1 then (128 : Int) else 128) = z := ⟨_, rfl⟩
                obtain ⟨hi, hhi⟩ : ∃ z : Int, (if q = 1 then (191 : Int) else 191) = z := ⟨_, rfl⟩
                rw [hlo, hhi]
                have hlob : 0 ≤ lo ∧ lo ≤ 255 := by rw [← hlo]; split <;> omega
                have hhib : 0 ≤ hi ∧ hi ≤ 255 := by rw [← hhi]; split <;> omega
                have HLOQ := hide hlo
                have HHIQ := hide hhi
                clear hlo hhi hcj
                by_cases hb1 : (cj : Int) < lo
                · have HF : Hid (runeV bs = -1) := hide ((unhide HRI).fail hm0 (fun z => unhide HWN z q (by omega) (by omega) (fun h => by have h2 := unhide HLOQ; rw [unhide HCJ] at h; split at h2 <;> split at h <;> omega)))
                  go_wp2_with fail
                  go_ret
                  exact ⟨by rw [unhide HF] <;> rfl, rfl⟩
                · by_cases hb2 : hi < (cj : Int)
                  · have HF : Hid (runeV bs = -1) := hide ((unhide HRI).fail hm0 (fun z => unhide HWN z q (by omega) (by omega) (fun h => by have h2 := unhide HHIQ; rw [unhide HCJ] at h; split at h2 <;> split at h <;> omega)))
                    go_wp2_with fail
                    go_ret
                    exact ⟨by rw [unhide HF] <;> rfl, rfl⟩
                  · have HOK2 : Hid (∀ j, 1 ≤ j → j < q + 1 → (if j = 1 then 128 else 128) ≤ bAt bs (bs.length - m + j) ∧ bAt bs (bs.length - m + j) ≤ (if j = 1 then 191 else 191)) := hide (fun j h1 h2 => by
                      by_cases hj : j = q
                      · have h3 := unhide HLOQ
                        have h4 := unhide HHIQ
                        rw [hj, unhide HCJ]
                        by_cases hq1e : q = 1
                        · simp only [if_pos hq1e] at h3 h4 ⊢; omega
                        · simp only [if_neg hq1e] at h3 h4 ⊢; omega
                      · exact unhide HOK j h1 (by omega))
                    go_wp2_with fail
                    exact ⟨⟨by first | trivial | rfl, q + 1, by omega, by omega, by simp, by simp <;> omega, by simp <;> omega, HOK2⟩, by simp [intOf] <;> omega⟩
              · obtain rfl : q = 2 := by omega
                have hWF : WfAt bs m := unhide HWY (unhide HOK)
                have hnx := (unhide HRI).next hm0 hWF
                rw [unhide HC0, unhide HKV] at hnx
                have HRN := hide hnx.1
                clear hWF hnx
                obtain ⟨a2, ha2⟩ : ∃ z, (if cc = 2 then some (⟨g, bl - m, none⟩ : Addr) else some ⟨g, bl - m + 2, none⟩) = z := ⟨_, rfl⟩
                have HA2 := hide ha2
                go_wp2_with fail
                exact ⟨⟨by first | trivial | rfl, m - 2, n + 1, cc - 2, a2, by first | trivial | rfl, by first | trivial | (push_cast; rfl), by omega, by omega, by omega, hide (fun h => by have h2 := unhide HA2; rw [if_neg (by omega)] at h2; rw [← h2]; congr 2; omega), HRN⟩, by simp [mlen]; omega⟩
        · have t2 : (decide ((194 : Int) ≤ (c0 : Int)) && decide ((c0 : Int) ≤ 223)) = false := by simp; omega
          by_cases k3 : (224 : Int) ≤ (c0 : Int) ∧ (c0 : Int) ≤ 239
          · obtain ⟨k3a, k3b⟩ := k3
            have n2 : ¬ (c0 : Int) ≤ 223 := by omega
            have n2a : (194 : Int) ≤ (c0 : Int) := by omega
            clear k2 t2
            by_cases e1 : (c0 : Int) = 224
            · have e1b : ((c0 : Int) == 224) = true := by simp [e1]
              have e1c : ((c0 : Int) == 237) = false := by simp; omega
              have HKV : Hid (wfK c0 = 3) := hide (by unfold wfK; rw [if_neg (by omega), if_neg (by omega), if_pos (by omega)])
              have HLO : Hid (wfLo c0 = 160) := hide (by unfold wfLo; split; omega; split <;> omega)
              have HHI : Hid (wfHi c0 = 191) := hide (by unfold wfHi; split; omega; split <;> omega)
              by_cases hln : (m : Int) < 3
              · have HF : Hid (runeV bs = -1) := hide ((unhide HRI).fail hm0 (fun q => by have h1 := q.2.1; rw [unhide HC0, unhide HKV] at h1; omega))
                go_wp2_with fail
                go_ret
                exact ⟨by rw [unhide HF] <;> rfl, rfl⟩
              · have hlnN : 3 ≤ m := by omega
                have HWN : Hid (∀ z : WfAt bs m, ∀ j, 1 ≤ j → j < 3 → ¬ ((if j = 1 then 160 else 128) ≤ bAt bs (bs.length - m + j) ∧ bAt bs (bs.length - m + j) ≤ (if j = 1 then 191 else 191)) → False) := hide (fun z j h1 h2 hno => by
                  unfold WfAt Wf at z
                  rw [unhide HC0, unhide HKV, unhide HLO, unhide HHI] at z
                  obtain ⟨_, _, z1, z2, z3⟩ := z
                  apply hno
                  match j, h1, h2 with
                  | 1, _, _ => have := z1 (by omega); simp; omega
                  | 2, _, _ => have := z2 (by omega); simp; omega
                  | 0, h1, _ => omega
                  | j + 3, _, h2 => omega
                  )
                have HWY : Hid ((∀ j, 1 ≤ j → j < 3 → (if j = 1 then 160 else 128) ≤ bAt bs (bs.length - m + j) ∧ bAt bs (bs.length - m + j) ≤ (if j = 1 then 191 else 191)) → WfAt bs m) := hide (fun hall => by
                  unfold WfAt Wf
                  rw [unhide HC0, unhide HKV, unhide HLO, unhide HHI]
                  exact ⟨by omega, by omega, (fun _ => by have := hall 1 (by omega) (by omega); simpa using this), (fun _ => by have := hall 2 (by omega) (by omega); simpa using this), (fun h => by omega)⟩)
                go_wp2_with fail
                go_loopw [5, 6, 8] (fun lv hv i wr => w = wr ∧ ∃ q : Nat, 1 ≤ q ∧ q ≤ 3 ∧ i = .int .i64 (q : Int) ∧ lv = .int .u8 (if q = 1 then 160 else 128) ∧ hv = .int .u8 (if q = 1 then 191 else 191) ∧ Hid (∀ j, 1 ≤ j → j < q → (if j = 1 then 160 else 128) ≤ bAt bs (bs.length - m + j) ∧ bAt bs (bs.length - m + j) ≤ (if j = 1 then 191 else 191))) (fun _ _ i _ => ((3 : Int) - intOf i).toNat)
                case atStart => exact ⟨rfl, 1, by omega, by omega, by simp, by simp, by simp, hide (fun j h1 h2 => by omega)⟩
                case round =>
                  obtain ⟨rfl, q, hq1, hqK, rfl, rfl, rfl, HOK⟩ := hrel
                  by_cases hqlt : (q : Int) < 3
                  · have hqm : (q : Int) < (m : Int) := by omega
                    obtain ⟨cj, hcj⟩ : ∃ z, bAt bs (bs.length - m + q) = z := ⟨_, rfl⟩
                    have HCJ := hide hcj
                    have ej : w.cell? ⟨g, bs.length - m + q, none⟩ = some (.int .u8 (cj : Int)) := by
                      obtain ⟨x, hx⟩ : ∃ x, bs[bs.length - m + q]? = some x := ⟨_, List.getElem?_eq_getElem (by have := (unhide HRI).le; omega)⟩
                      have h1 := unhide HBY _ x hx
                      rw [← hcj]
                      unfold bAt
                      rw [List.getD_eq_getElem?_getD, hx]
                      exact h1
                    rw [show bs.length = bl from unhide HBL] at ej
                    obtain ⟨lo, hlo⟩ : ∃ z : Int, (if q = 1 then (160 : Int) else 128) = z := ⟨_, rfl⟩
                    obtain ⟨hi, hhi⟩ : ∃ z : Int, (if q = 1 then (191 : Int) else 191) = z := ⟨_, rfl⟩
                    rw [hlo, hhi]
                    have hlob : 0 ≤ lo ∧ lo ≤ 255 := by rw [← hlo]; split <;> omega
                    have hhib : 0 ≤ hi ∧ hi ≤ 255 := by rw [← hhi]; split <;> omega
                    have HLOQ := hide hlo
                    have HHIQ := hide hhi
                    clear hlo hhi hcj
                    by_cases hb1 : (cj : Int) < lo
                    · have HF : Hid (runeV bs = -1) := hide ((unhide HRI).fail hm0 (fun z => unhide HWN z q (by omega) (by omega) (fun h => by have h2 := unhide HLOQ; rw [unhide HCJ] at h; split at h2 <;> split at h <;> omega)))
                      go_wp2_with fail
                      go_ret
                      exact ⟨by rw [unhide HF] <;> rfl, rfl⟩
                    · by_cases hb2 : hi < (cj : Int)
                      · have HF : Hid (runeV bs = -1) := hide ((unhide HRI).fail hm0 (fun z => unhide HWN z q (by omega) (by omega) (fun h => by have h2 := unhide HHIQ; rw [unhide HCJ] at h; split at h2 <;> split at h <;> omega)))
                        go_wp2_with fail
                        go_ret
                        exact ⟨by rw [unhide HF] <;> rfl, rfl⟩
                      · have HOK2 : Hid (∀ j, 1 ≤ j → j < q + 1 → (if j = 1 then 160 else 128) ≤ bAt bs (bs.length - m + j) ∧ bAt bs (bs.length - m + j) ≤ (if j = 1 then 191 else 191)) := hide (fun j h1 h2 => by
                          by_cases hj : j = q
                          · have h3 := unhide HLOQ
                            have h4 := unhide HHIQ
                            rw [hj, unhide HCJ]
                            by_cases hq1e : q = 1
                            · simp only [if_pos hq1e] at h3 h4 ⊢; omega
                            · simp only [if_neg hq1e] at h3 h4 ⊢; omega
                          · exact unhide HOK j h1 (by omega))
                        go_wp2_with fail
                        exact ⟨⟨by first | trivial | rfl, q + 1, by omega, by omega, by simp, by simp <;> omega, by simp <;> omega, HOK2⟩, by simp [intOf] <;> omega⟩
                  · obtain rfl : q = 3 := by omega
                    have hWF : WfAt bs m := unhide HWY (unhide HOK)
                    have hnx := (unhide HRI).next hm0 hWF
                    rw [unhide HC0, unhide HKV] at hnx
                    have HRN := hide hnx.1
                    clear hWF hnx
                    obtain ⟨a2, ha2⟩ : ∃ z, (if cc = 3 then some (⟨g, bl - m, none⟩ : Addr) else some ⟨g, bl - m + 3, none⟩) = z := ⟨_, rfl⟩
                    have HA2 := hide ha2
                    go_wp2_with fail
                    exact ⟨⟨by first | trivial | rfl, m - 3, n + 1, cc - 3, a2, by first | trivial | rfl, by first | trivial | (push_cast; rfl), by omega, by omega, by omega, hide (fun h => by have h2 := unhide HA2; rw [if_neg (by omega)] at h2; rw [← h2]; congr 2; omega), HRN⟩, by simp [mlen]; omega⟩
            · have e1b : ((c0 : Int) == 224) = false := by simp; omega
              by_cases e2 : (c0 : Int) = 237
              · have e2b : ((c0 : Int) == 237) = true := by simp [e2]
                have HKV : Hid (wfK c0 = 3) := hide (by unfold wfK; rw [if_neg (by omega), if_neg (by omega), if_pos (by omega)])
                have HLO : Hid (wfLo c0 = 128) := hide (by unfold wfLo; split; omega; split <;> omega)
                have HHI : Hid (wfHi c0 = 159) := hide (by unfold wfHi; split; omega; split <;> omega)
                by_cases hln : (m : Int) < 3
                · have HF : Hid (runeV bs = -1) := hide ((unhide HRI).fail hm0 (fun q => by have h1 := q.2.1; rw [unhide HC0, unhide HKV] at h1; omega))
                  go_wp2_with fail
                  go_ret
                  exact ⟨by rw [unhide HF] <;> rfl, rfl⟩
                · have hlnN : 3 ≤ m := by omega
                  have HWN : Hid (∀ z : WfAt bs m, ∀ j, 1 ≤ j → j < 3 → ¬ ((if j = 1 then 128 else 128) ≤ bAt bs (bs.length - m + j) ∧ bAt bs (bs.length - m + j) ≤ (if j = 1 then 159 else 191)) → False) := hide (fun z j h1 h2 hno => by
                    unfold WfAt Wf at z
                    rw [unhide HC0, unhide HKV, unhide HLO, unhide HHI] at z
                    obtain ⟨_, _, z1, z2, z3⟩ := z
                    apply hno
                    match j, h1, h2 with
                    | 1, _, _ => have := z1 (by omega); simp; omega
                    | 2, _, _ => have := z2 (by omega); simp; omega
                    | 0, h1, _ => omega
                    | j + 3, _, h2 => omega
                    )
                  have HWY : Hid ((∀ j, 1 ≤ j → j < 3 → (if j = 1 then 128 else 128) ≤ bAt bs (bs.length - m + j) ∧ bAt bs (bs.length - m + j) ≤ (if j = 1 then 159 else 191)) → WfAt bs m) := hide (fun hall => by
                    unfold WfAt Wf
                    rw [unhide HC0, unhide HKV, unhide HLO, unhide HHI]
                    exact ⟨by omega, by omega, (fun _ => by have := hall 1 (by omega) (by omega); simpa using this), (fun _ => by have := hall 2 (by omega) (by omega); simpa using this), (fun h => by omega)⟩)
                  go_wp2_with fail
                  go_loopw [5, 6, 8] (fun lv hv i wr => w = wr ∧ ∃ q : Nat, 1 ≤ q ∧ q ≤ 3 ∧ i = .int .i64 (q : Int) ∧ lv = .int .u8 (if q = 1 then 128 else 128) ∧ hv = .int .u8 (if q = 1 then 159 else 191) ∧ Hid (∀ j, 1 ≤ j → j < q → (if j = 1 then 128 else 128) ≤ bAt bs (bs.length - m + j) ∧ bAt bs (bs.length - m + j) ≤ (if j = 1 then 159 else 191))) (fun _ _ i _ => ((3 : Int) - intOf i).toNat)
                  case atStart => exact ⟨rfl, 1, by omega, by omega, by simp, by simp, by simp, hide (fun j h1 h2 => by omega)⟩
                  case round =>
                    obtain ⟨rfl, q, hq1, hqK, rfl, rfl, rfl, HOK⟩ := hrel
                    by_cases hqlt : (q : Int) < 3
                    · have hqm : (q : Int) < (m : Int) := by omega
                      obtain ⟨cj, hcj⟩ : ∃ z, bAt bs (bs.length - m + q) = z := ⟨_, rfl⟩
                      have HCJ := hide hcj
                      have ej : w.cell? ⟨g, bs.length - m + q, none⟩ = some (.int .u8 (cj : Int)) := by
                        obtain ⟨x, hx⟩ : ∃ x, bs[bs.length - m + q]? = some x := ⟨_, List.getElem?_eq_getElem (by have := (unhide HRI).le; omega)⟩
                        have h1 := unhide HBY _ x hx
                        rw [← hcj]
                        unfold bAt
                        rw [List.getD_eq_getElem?_getD, hx]
                        exact h1
                      rw [show bs.length = bl from unhide HBL] at ej
                      obtain ⟨lo, hlo⟩ : ∃ z : Int, (if q = 1 then (128 : Int) else 128) = z := ⟨_, rfl⟩
                      obtain ⟨hi, hhi⟩ : ∃ z : Int, (if q = 1 then (159 : Int) else 191) = z := ⟨_, rfl⟩
                      rw [hlo, hhi]
                      have hlob : 0 ≤ lo ∧ lo ≤ 255 := by rw [← hlo]; split <;> omega
                      have hhib : 0 ≤ hi ∧ hi ≤ 255 := by rw [← hhi]; split <;> omega
                      have HLOQ := hide hlo
                      have HHIQ := hide hhi
                      clear hlo hhi hcj
                      by_cases hb1 : (cj : Int) < lo
                      · have HF : Hid (runeV bs = -1) := hide ((unhide HRI).fail hm0 (fun z => unhide HWN z q (by omega) (by omega) (fun h => by have h2 := unhide HLOQ; rw [unhide HCJ] at h; split at h2 <;> split at h <;> omega)))
                        go_wp2_with fail
                        go_ret
                        exact ⟨by rw [unhide HF] <;> rfl, rfl⟩
                      · by_cases hb2 : hi < (cj : Int)
                        · have HF : Hid (runeV bs = -1) := hide ((unhide HRI).fail hm0 (fun z => unhide HWN z q (by omega) (by omega) (fun h => by have h2 := unhide HHIQ; rw [unhide HCJ] at h; split at h2 <;> split at h <;> omega)))
                          go_wp2_with fail
                          go_ret
                          exact ⟨by rw [unhide HF] <;> rfl, rfl⟩
                        · have HOK2 : Hid (∀ j, 1 ≤ j → j < q + 1 → (if j = 1 then 128 else 128) ≤ bAt bs (bs.length - m + j) ∧ bAt bs (bs.length - m + j) ≤ (if j = 1 then 159 else 191)) := hide (fun j h1 h2 => by
                            by_cases hj : j = q
                            · have h3 := unhide HLOQ
                              have h4 := unhide HHIQ
                              rw [hj, unhide HCJ]
                              by_cases hq1e : q = 1
                              · simp only [if_pos hq1e] at h3 h4 ⊢; omega
                              · simp only [if_neg hq1e] at h3 h4 ⊢; omega
                            · exact unhide HOK j h1 (by omega))
                          go_wp2_with fail
                          exact ⟨⟨by first | trivial | rfl, q + 1, by omega, by omega, by simp, by simp <;> omega, by simp <;> omega, HOK2⟩, by simp [intOf] <;> omega⟩
                    · obtain rfl : q = 3 := by omega
                      have hWF : WfAt bs m := unhide HWY (unhide HOK)
                      have hnx := (unhide HRI).next hm0 hWF
                      rw [unhide HC0, unhide HKV] at hnx
                      have HRN := hide hnx.1
                      clear hWF hnx
                      obtain ⟨a2, ha2⟩ : ∃ z, (if cc = 3 then some (⟨g, bl - m, none⟩ : Addr) else some ⟨g, bl - m + 3, none⟩) = z := ⟨_, rfl⟩
                      have HA2 := hide ha2
                      go_wp2_with fail
                      exact ⟨⟨by first | trivial | rfl, m - 3, n + 1, cc - 3, a2, by first | trivial | rfl, by first | trivial | (push_cast; rfl), by omega, by omega, by omega, hide (fun h => by have h2 := unhide HA2; rw [if_neg (by omega)] at h2; rw [← h2]; congr 2; omega), HRN⟩, by simp [mlen]; omega⟩
              · have e2b : ((c0 : Int) == 237) = false := by simp; omega
                have HKV : Hid (wfK c0 = 3) := hide (by unfold wfK; rw [if_neg (by omega), if_neg (by omega), if_pos (by omega)])
                have HLO : Hid (wfLo c0 = 128) := hide (by unfold wfLo; split; omega; split <;> omega)
                have HHI : Hid (wfHi c0 = 191) := hide (by unfold wfHi; split; omega; split <;> omega)
                by_cases hln : (m : Int) < 3
                · have HF : Hid (runeV bs = -1) := hide ((unhide HRI).fail hm0 (fun q => by have h1 := q.2.1; rw [unhide HC0, unhide HKV] at h1; omega))
                  go_wp2_with fail
                  go_ret
                  exact ⟨by rw [unhide HF] <;> rfl, rfl⟩
                · have hlnN : 3 ≤ m := by omega
                  have HWN : Hid (∀ z : WfAt bs m, ∀ j, 1 ≤ j → j < 3 → ¬ ((if j = 1 then 128 else 128) ≤ bAt bs (bs.length - m + j) ∧ bAt bs (bs.length - m + j) ≤ (if j = 1 then 191 else 191)) → False) := hide (fun z j h1 h2 hno => by
                    unfold WfAt Wf at z
                    rw [unhide HC0, unhide HKV, unhide HLO, unhide HHI] at z
                    obtain ⟨_, _, z1, z2, z3⟩ := z
                    apply hno
                    match j, h1, h2 with
                    | 1, _, _ => have := z1 (by omega); simp; omega
                    | 2, _, _ => have := z2 (by omega); simp; omega
                    | 0, h1, _ => omega
                    | j + 3, _, h2 => omega
                    )
                  have HWY : Hid ((∀ j, 1 ≤ j → j < 3 → (if j = 1 then 128 else 128) ≤ bAt bs (bs.length - m + j) ∧ bAt bs (bs.length - m + j) ≤ (if j = 1 then 191 else 191)) → WfAt bs m) := hide (fun hall => by
                    unfold WfAt Wf
                    rw [unhide HC0, unhide HKV, unhide HLO, unhide HHI]
                    exact ⟨by omega, by omega, (fun _ => by have := hall 1 (by omega) (by omega); simpa using this), (fun _ => by have := hall 2 (by omega) (by omega); simpa using this), (fun h => by omega)⟩)
                  go_wp2_with fail
                  go_loopw [5, 6, 8] (fun lv hv i wr => w = wr ∧ ∃ q : Nat, 1 ≤ q ∧ q ≤ 3 ∧ i = .int .i64 (q : Int) ∧ lv = .int .u8 (if q = 1 then 128 else 128) ∧ hv = .int .u8 (if q = 1 then 191 else 191) ∧ Hid (∀ j, 1 ≤ j → j < q → (if j = 1 then 128 else 128) ≤ bAt bs (bs.length - m + j) ∧ bAt bs (bs.length - m + j) ≤ (if j = 1 then 191 else 191))) (fun _ _ i _ => ((3 : Int) - intOf i).toNat)
                  case atStart => exact ⟨rfl, 1, by omega, by omega, by simp, by simp, by simp, hide (fun j h1 h2 => by omega)⟩
                  case round =>
                    obtain ⟨rfl, q, hq1, hqK, rfl, rfl, rfl, HOK⟩ := hrel
                    by_cases hqlt : (q : Int) < 3
                    · have hqm : (q : Int) < (m : Int) := by omega
                      obtain ⟨cj, hcj⟩ : ∃ z, bAt bs (bs.length - m + q) = z := ⟨_, rfl⟩
                      have HCJ := hide hcj
                      have ej : w.cell? ⟨g, bs.length - m + q, none⟩ = some (.int .u8 (cj : Int)) := by
                        obtain ⟨x, hx⟩ : ∃ x, bs[bs.length - m + q]? = some x := ⟨_, List.getElem?_eq_getElem (by have := (unhide HRI).le; omega)⟩
                        have h1 := unhide HBY _ x hx
                        rw [← hcj]
                        unfold bAt
                        rw [List.getD_eq_getElem?_getD, hx]
                        exact h1
                      rw [show bs.length = bl from unhide HBL] at ej
                      obtain ⟨lo, hlo⟩ : ∃ z : Int, (if q = 1 then (128 : Int) else 128) = z := ⟨_, rfl⟩
                      obtain ⟨hi, hhi⟩ : ∃ z : Int, (if q = 1 then (191 : Int) else 191) = z := ⟨_, rfl⟩
                      rw [hlo, hhi]
                      have hlob : 0 ≤ lo ∧ lo ≤ 255 := by rw [← hlo]; split <;> omega
                      have hhib : 0 ≤ hi ∧ hi ≤ 255 := by rw [← hhi]; split <;> omega
                      have HLOQ := hide hlo
                      have HHIQ := hide hhi
                      clear hlo hhi hcj
                      by_cases hb1 : (cj : Int) < lo
                      · have HF : Hid (runeV bs = -1) := hide ((unhide HRI).fail hm0 (fun z => unhide HWN z q (by omega) (by omega) (fun h => by have h2 := unhide HLOQ; rw [unhide HCJ] at h; split at h2 <;> split at h <;> omega)))
                        go_wp2_with fail
                        go_ret
                        exact ⟨by rw [unhide HF] <;> rfl, rfl⟩
                      · by_cases hb2 : hi < (cj : Int)
                        · have HF : Hid (runeV bs = -1) := hide ((unhide HRI).fail hm0 (fun z => unhide HWN z q (by omega) (by omega) (fun h => by have h2 := unhide HHIQ; rw [unhide HCJ] at h; split at h2 <;> split at h <;> omega)))
                          go_wp2_with fail
                          go_ret
                          exact ⟨by rw [unhide HF] <;> rfl, rfl⟩
                        · have HOK2 : Hid (∀ j, 1 ≤ j → j < q + 1 → (if j = 1 then 128 else 128) ≤ bAt bs (bs.length - m + j) ∧ bAt bs (bs.length - m + j) ≤ (if j = 1 then 191 else 191)) := hide (fun j h1 h2 => by
                            by_cases hj : j = q
                            · have h3 := unhide HLOQ
                              have h4 := unhide HHIQ
                              rw [hj, unhide HCJ]
                              by_cases hq1e : q = 1
                              · simp only [if_pos hq1e] at h3 h4 ⊢; omega
                              · simp only [if_neg hq1e] at h3 h4 ⊢; omega
                            · exact unhide HOK j h1 (by omega))
                          go_wp2_with fail
                          exact ⟨⟨by first | trivial | rfl, q + 1, by omega, by omega, by simp, by simp <;> omega, by simp <;> omega, HOK2⟩, by simp [intOf] <;> omega⟩
                    · obtain rfl : q = 3 := by omega
                      have hWF : WfAt bs m := unhide HWY (unhide HOK)
                      have hnx := (unhide HRI).next hm0 hWF
                      rw [unhide HC0, unhide HKV] at hnx
                      have HRN := hide hnx.1
                      clear hWF hnx
                      obtain ⟨a2, ha2⟩ : ∃ z, (if cc = 3 then some (⟨g, bl - m, none⟩ : Addr) else some ⟨g, bl - m + 3, none⟩) = z := ⟨_, rfl⟩
                      have HA2 := hide ha2
                      go_wp2_with fail
                      exact ⟨⟨by first | trivial | rfl, m - 3, n + 1, cc - 3, a2, by first | trivial | rfl, by first | trivial | (push_cast; rfl), by omega, by omega, by omega, hide (fun h => by have h2 := unhide HA2; rw [if_neg (by omega)] at h2; rw [← h2]; congr 2; omega), HRN⟩, by simp [mlen]; omega⟩
          · by_cases k4 : (240 : Int) ≤ (c0 : Int) ∧ (c0 : Int) ≤ 244
            · obtain ⟨k4a, k4b⟩ := k4
              have n2 : ¬ (c0 : Int) ≤ 223 := by omega
              have n2a : (194 : Int) ≤ (c0 : Int) := by omega
              have n3 : ¬ (c0 : Int) ≤ 239 := by omega
              have n3a : (224 : Int) ≤ (c0 : Int) := by omega
              clear k2 t2 k3
              by_cases e1 : (c0 : Int) = 240
              · have e1b : ((c0 : Int) == 240) = true := by simp [e1]
                have e1c : ((c0 : Int) == 244) = false := by simp; omega
                have HKV : Hid (wfK c0 = 4) := hide (by unfold wfK; rw [if_neg (by omega), if_neg (by omega), if_neg (by omega), if_pos (by omega)])
                have HLO : Hid (wfLo c0 = 144) := hide (by unfold wfLo; split; omega; split <;> omega)
                have HHI : Hid (wfHi c0 = 191) := hide (by unfold wfHi; split; omega; split <;> omega)
                by_cases hln : (m : Int) < 4
                · have HF : Hid (runeV bs = -1) := hide ((unhide HRI).fail hm0 (fun q => by have h1 := q.2.1; rw [unhide HC0, unhide HKV] at h1; omega))
                  go_wp2_with fail
                  go_ret
                  exact ⟨by rw [unhide HF] <;> rfl, rfl⟩
                · have hlnN : 4 ≤ m := by omega
                  have HWN : Hid (∀ z : WfAt bs m, ∀ j, 1 ≤ j → j < 4 → ¬ ((if j = 1 then 144 else 128) ≤ bAt bs (bs.length - m + j) ∧ bAt bs (bs.length - m + j) ≤ (if j = 1 then 191 else 191)) → False) := hide (fun z j h1 h2 hno => by
                    unfold WfAt Wf at z
                    rw [unhide HC0, unhide HKV, unhide HLO, unhide HHI] at z
                    obtain ⟨_, _, z1, z2, z3⟩ := z
                    apply hno
                    match j, h1, h2 with
                    | 1, _, _ => have := z1 (by omega); simp; omega
                    | 2, _, _ => have := z2 (by omega); simp; omega
                    | 3, _, _ => have := z3 (by omega); simp; omega
                    | 0, h1, _ => omega
                    | j + 4, _, h2 => omega
                    )
                  have HWY : Hid ((∀ j, 1 ≤ j → j < 4 → (if j = 1 then 144 else 128) ≤ bAt bs (bs.length - m + j) ∧ bAt bs (bs.length - m + j) ≤ (if j = 1 then 191 else 191)) → WfAt bs m) := hide (fun hall => by
                    unfold WfAt Wf
                    rw [unhide HC0, unhide HKV, unhide HLO, unhide HHI]
                    exact ⟨by omega, by omega, (fun _ => by have := hall 1 (by omega) (by omega); simpa using this), (fun _ => by have := hall 2 (by omega) (by omega); simpa using this), (fun _ => by have := hall 3 (by omega) (by omega); simpa using this)⟩)
                  go_wp2_with fail
                  go_loopw [5, 6, 8] (fun lv hv i wr => w = wr ∧ ∃ q : Nat, 1 ≤ q ∧ q ≤ 4 ∧ i = .int .i64 (q : Int) ∧ lv = .int .u8 (if q = 1 then 144 else 128) ∧ hv = .int .u8 (if q = 1 then 191 else 191) ∧ Hid (∀ j, 1 ≤ j → j < q → (if j = 1 then 144 else 128) ≤ bAt bs (bs.length - m + j) ∧ bAt bs (bs.length - m + j) ≤ (if j = 1 then 191 else 191))) (fun _ _ i _ => ((4 : Int) - intOf i).toNat)
                  case atStart => exact ⟨rfl, 1, by omega, by omega, by simp, by simp, by simp, hide (fun j h1 h2 => by omega)⟩
                  case round =>
                    obtain ⟨rfl, q, hq1, hqK, rfl, rfl, rfl, HOK⟩ := hrel
                    by_cases hqlt : (q : Int) < 4
                    · have hqm : (q : Int) < (m : Int) := by omega
                      obtain ⟨cj, hcj⟩ : ∃ z, bAt bs (bs.length - m + q) = z := ⟨_, rfl⟩
                      have HCJ := hide hcj
                      have ej : w.cell? ⟨g, bs.length - m + q, none⟩ = some (.int .u8 (cj : Int)) := by
                        obtain ⟨x, hx⟩ : ∃ x, bs[bs.length - m + q]? = some x := ⟨_, List.getElem?_eq_getElem (by have := (unhide HRI).le; omega)⟩
                        have h1 := unhide HBY _ x hx
                        rw [← hcj]
                        unfold bAt
                        rw [List.getD_eq_getElem?_getD, hx]
                        exact h1
                      rw [show bs.length = bl from unhide HBL] at ej
                      obtain ⟨lo, hlo⟩ : ∃ z : Int, (if q = 1 then (144 : Int) else 128) = z := ⟨_, rfl⟩
                      obtain ⟨hi, hhi⟩ : ∃ z : Int, (if q = 1 then (191 : Int) else 191) = z := ⟨_, rfl⟩
                      rw [hlo, hhi]
                      have hlob : 0 ≤ lo ∧ lo ≤ 255 := by rw [← hlo]; split <;> omega
                      have hhib : 0 ≤ hi ∧ hi ≤ 255 := by rw [← hhi]; split <;> omega
                      have HLOQ := hide hlo
                      have HHIQ := hide hhi
                      clear hlo hhi hcj
                      by_cases hb1 : (cj : Int) < lo
                      · have HF : Hid (runeV bs = -1) := hide ((unhide HRI).fail hm0 (fun z => unhide HWN z q (by omega) (by omega) (fun h => by have h2 := unhide HLOQ; rw [unhide HCJ] at h; split at h2 <;> split at h <;> omega)))
                        go_wp2_with fail
                        go_ret
                        exact ⟨by rw [unhide HF] <;> rfl, rfl⟩
                      · by_cases hb2 : hi < (cj : Int)
                        · have HF : Hid (runeV bs = -1) := hide ((unhide HRI).fail hm0 (fun z => unhide HWN z q (by omega) (by omega) (fun h => by have h2 := unhide HHIQ; rw [unhide HCJ] at h; split at h2 <;> split at h <;> omega)))
                          go_wp2_with fail
                          go_ret
                          exact ⟨by rw [unhide HF] <;> rfl, rfl⟩
                        · have HOK2 : Hid (∀ j, 1 ≤ j → j < q + 1 → (if j = 1 then 144 else 128) ≤ bAt bs (bs.length - m + j) ∧ bAt bs (bs.length - m + j) ≤ (if j = 1 then 191 else 191)) := hide (fun j h1 h2 => by
                            by_cases hj : j = q
                            · have h3 := unhide HLOQ
                              have h4 := unhide HHIQ
                              rw [hj, unhide HCJ]
                              by_cases hq1e : q = 1
                              · simp only [if_pos hq1e] at h3 h4 ⊢; omega
                              · simp only [if_neg hq1e] at h3 h4 ⊢; omega
                            · exact unhide HOK j h1 (by omega))
                          go_wp2_with fail
                          exact ⟨⟨by first | trivial | rfl, q + 1, by omega, by omega, by simp, by simp <;> omega, by simp <;> omega, HOK2⟩, by simp [intOf] <;> omega⟩
                    · obtain rfl : q = 4 := by omega
                      have hWF : WfAt bs m := unhide HWY (unhide HOK)
                      have hnx := (unhide HRI).next hm0 hWF
                      rw [unhide HC0, unhide HKV] at hnx
                      have HRN := hide hnx.1
                      clear hWF hnx
                      obtain ⟨a2, ha2⟩ : ∃ z, (if cc = 4 then some (⟨g, bl - m, none⟩ : Addr) else some ⟨g, bl - m + 4, none⟩) = z := ⟨_, rfl⟩
                      have HA2 := hide ha2
                      go_wp2_with fail
                      exact ⟨⟨by first | trivial | rfl, m - 4, n + 1, cc - 4, a2, by first | trivial | rfl, by first | trivial | (push_cast; rfl), by omega, by omega, by omega, hide (fun h => by have h2 := unhide HA2; rw [if_neg (by omega)] at h2; rw [← h2]; congr 2; omega), HRN⟩, by simp [mlen]; omega⟩
              · have e1b : ((c0 : Int) == 240) = false := by simp; omega
                by_cases e2 : (c0 : Int) = 244
                · have e2b : ((c0 : Int) == 244) = true := by simp [e2]
                  have HKV : Hid (wfK c0 = 4) := hide (by unfold wfK; rw [if_neg (by omega), if_neg (by omega), if_neg (by omega), if_pos (by omega)])
                  have HLO : Hid (wfLo c0 = 128) := hide (by unfold wfLo; split; omega; split <;> omega)
                  have HHI : Hid (wfHi c0 = 143) := hide (by unfold wfHi; split; omega; split <;> omega)
                  by_cases hln : (m : Int) < 4
                  · have HF : Hid (runeV bs = -1) := hide ((unhide HRI).fail hm0 (fun q => by have h1 := q.2.1; rw [unhide HC0, unhide HKV] at h1; omega))
                    go_wp2_with fail
                    go_ret
                    exact ⟨by rw [unhide HF] <;> rfl, rfl⟩
                  · have hlnN : 4 ≤ m := by omega
                    have HWN : Hid (∀ z : WfAt bs m, ∀ j, 1 ≤ j → j < 4 → ¬ ((if j = 1 then 128 else 128) ≤ bAt bs (bs.length - m + j) ∧ bAt bs (bs.length - m + j) ≤ (if j = 1 then 143 else 191)) → False) := hide (fun z j h1 h2 hno => by
                      unfold WfAt Wf at z
                      rw [unhide HC0, unhide HKV, unhide HLO, unhide HHI] at z
                      obtain ⟨_, _, z1, z2, z3⟩ := z
                      apply hno
                      match j, h1, h2 with
                      | 1, _, _ => have := z1 (by omega); simp; omega
                      | 2, _, _ => have := z2 (by omega); simp; omega
                      | 3, _, _ => have := z3 (by omega); simp; omega
                      | 0, h1, _ => omega
                      | j + 4, _, h2 => omega
                      )
                    have HWY : Hid ((∀ j, 1 ≤ j → j < 4 → (if j = 1 then 128 else 128) ≤ bAt bs (bs.length - m + j) ∧ bAt bs (bs.length - m + j) ≤ (if j = 1 then 143 else 191)) → WfAt bs m) := hide (fun hall => by
                      unfold WfAt Wf
                      rw [unhide HC0, unhide HKV, unhide HLO, unhide HHI]
                      exact ⟨by omega, by omega, (fun _ => by have := hall 1 (by omega) (by omega); simpa using this), (fun _ => by have := hall 2 (by omega) (by omega); simpa using this), (fun _ => by have := hall 3 (by omega) (by omega); simpa using this)⟩)
                    go_wp2_with fail
                    go_loopw [5, 6, 8] (fun lv hv i wr => w = wr ∧ ∃ q : Nat, 1 ≤ q ∧ q ≤ 4 ∧ i = .int .i64 (q : Int) ∧ lv = .int .u8 (if q = 1 then 128 else 128) ∧ hv = .int .u8 (if q = 1 then 143 else 191) ∧ Hid (∀ j, 1 ≤ j → j < q → (if j = 1 then 128 else 128) ≤ bAt bs (bs.length - m + j) ∧ bAt bs (bs.length - m + j) ≤ (if j = 1 then 143 else 191))) (fun _ _ i _ => ((4 : Int) - intOf i).toNat)
                    case atStart => exact ⟨rfl, 1, by omega, by omega, by simp, by simp, by simp, hide (fun j h1 h2 => by omega)⟩
                    case round =>
                      obtain ⟨rfl, q, hq1, hqK, rfl, rfl, rfl, HOK⟩ := hrel
                      by_cases hqlt : (q : Int) < 4
                      · have hqm : (q : Int) < (m : Int) := by omega
                        obtain ⟨cj, hcj⟩ : ∃ z, bAt bs (bs.length - m + q) = z := ⟨_, rfl⟩
                        have HCJ := hide hcj
                        have ej : w.cell? ⟨g, bs.length - m + q, none⟩ = some (.int .u8 (cj : Int)) := by
                          obtain ⟨x, hx⟩ : ∃ x, bs[bs.length - m + q]? = some x := ⟨_, List.getElem?_eq_getElem (by have := (unhide HRI).le; omega)⟩
                          have h1 := unhide HBY _ x hx
                          rw [← hcj]
                          unfold bAt
                          rw [List.getD_eq_getElem?_getD, hx]
                          exact h1
                        rw [show bs.length = bl from unhide HBL] at ej
                        obtain ⟨lo, hlo⟩ : ∃ z : Int, (if q = 1 then (128 : Int) else 128) = z := ⟨_, rfl⟩
                        obtain ⟨hi, hhi⟩ : ∃ z : Int, (if q = 1 then (143 : Int) else 191) = z := ⟨_, rfl⟩
                        rw [hlo, hhi]
                        have hlob : 0 ≤ lo ∧ lo ≤ 255 := by rw [← hlo]; split <;> omega
                        have hhib : 0 ≤ hi ∧ hi ≤ 255 := by rw [← hhi]; split <;> omega
                        have HLOQ := hide hlo
                        have HHIQ := hide hhi
                        clear hlo hhi hcj
                        by_cases hb1 : (cj : Int) < lo
                        · have HF : Hid (runeV bs = -1) := hide ((unhide HRI).fail hm0 (fun z => unhide HWN z q (by omega) (by omega) (fun h => by have h2 := unhide HLOQ; rw [unhide HCJ] at h; split at h2 <;> split at h <;> omega)))
                          go_wp2_with fail
                          go_ret
                          exact ⟨by rw [unhide HF] <;> rfl, rfl⟩
                        · by_cases hb2 : hi < (cj : Int)
                          · have HF : Hid (runeV bs = -1) := hide ((unhide HRI).fail hm0 (fun z => unhide HWN z q (by omega) (by omega) (fun h => by have h2 := unhide HHIQ; rw [unhide HCJ] at h; split at h2 <;> split at h <;> omega)))
                            go_wp2_with fail
                            go_ret
                            exact ⟨by rw [unhide HF] <;> rfl, rfl⟩
                          · have HOK2 : Hid (∀ j, 1 ≤ j → j < q + 1 → (if j = 1 then 128 else 128) ≤ bAt bs (bs.length - m + j) ∧ bAt bs (bs.length - m + j) ≤ (if j = 1 then 143 else 191)) := hide (fun j h1 h2 => by
                              by_cases hj : j = q
                              · have h3 := unhide HLOQ
                                have h4 := unhide HHIQ
                                rw [hj, unhide HCJ]
                                by_cases hq1e : q = 1
                                · simp only [if_pos hq1e] at h3 h4 ⊢; omega
                                · simp only [if_neg hq1e] at h3 h4 ⊢; omega
                              · exact unhide HOK j h1 (by omega))
                            go_wp2_with fail
                            exact ⟨⟨by first | trivial | rfl, q + 1, by omega, by omega, by simp, by simp <;> omega, by simp <;> omega, HOK2⟩, by simp [intOf] <;> omega⟩
                      · obtain rfl : q = 4 := by omega
                        have hWF : WfAt bs m := unhide HWY (unhide HOK)
                        have hnx := (unhide HRI).next hm0 hWF
                        rw [unhide HC0, unhide HKV] at hnx
                        have HRN := hide hnx.1
                        clear hWF hnx
                        obtain ⟨a2, ha2⟩ : ∃ z, (if cc = 4 then some (⟨g, bl - m, none⟩ : Addr) else some ⟨g, bl - m + 4, none⟩) = z := ⟨_, rfl⟩
                        have HA2 := hide ha2
                        go_wp2_with fail
                        exact ⟨⟨by first | trivial | rfl, m - 4, n + 1, cc - 4, a2, by first | trivial | rfl, by first | trivial | (push_cast; rfl), by omega, by omega, by omega, hide (fun h => by have h2 := unhide HA2; rw [if_neg (by omega)] at h2; rw [← h2]; congr 2; omega), HRN⟩, by simp [mlen]; omega⟩
                · have e2b : ((c0 : Int) == 244) = false := by simp; omega
                  have HKV : Hid (wfK c0 = 4) := hide (by unfold wfK; rw [if_neg (by omega), if_neg (by omega), if_neg (by omega), if_pos (by omega)])
                  have HLO : Hid (wfLo c0 = 128) := hide (by unfold wfLo; split; omega; split <;> omega)
                  have HHI : Hid (wfHi c0 = 191) := hide (by unfold wfHi; split; omega; split <;> omega)
                  by_cases hln : (m : Int) < 4
                  · have HF : Hid (runeV bs = -1) := hide ((unhide HRI).fail hm0 (fun q => by have h1 := q.2.1; rw [unhide HC0, unhide HKV] at h1; omega))
                    go_wp2_with fail
                    go_ret
                    exact ⟨by rw [unhide HF] <;> rfl, rfl⟩
                  · have hlnN : 4 ≤ m := by omega
                    have HWN : Hid (∀ z : WfAt bs m, ∀ j, 1 ≤ j → j < 4 → ¬ ((if j = 1 then 128 else 128) ≤ bAt bs (bs.length - m + j) ∧ bAt bs (bs.length - m + j) ≤ (if j = 1 then 191 else 191)) → False) := hide (fun z j h1 h2 hno => by
                      unfold WfAt Wf at z
                      rw [unhide HC0, unhide HKV, unhide HLO, unhide HHI] at z
                      obtain ⟨_, _, z1, z2, z3⟩ := z
                      apply hno
                      match j, h1, h2 with
                      | 1, _, _ => have := z1 (by omega); simp; omega
                      | 2, _, _ => have := z2 (by omega); simp; omega
                      | 3, _, _ => have := z3 (by omega); simp; omega
                      | 0, h1, _ => omega
                      | j + 4, _, h2 => omega
                      )
                    have HWY : Hid ((∀ j, 1 ≤ j → j < 4 → (if j = 1 then 128 else 128) ≤ bAt bs (bs.length - m + j) ∧ bAt bs (bs.length - m + j) ≤ (if j = 1 then 191 else 191)) → WfAt bs m) := hide (fun hall => by
                      unfold WfAt Wf
                      rw [unhide HC0, unhide HKV, unhide HLO, unhide HHI]
                      exact ⟨by omega, by omega, (fun _ => by have := hall 1 (by omega) (by omega); simpa using this), (fun _ => by have := hall 2 (by omega) (by omega); simpa using this), (fun _ => by have := hall 3 (by omega) (by omega); simpa using this)⟩)
                    go_wp2_with fail
                    go_loopw [5, 6, 8] (fun lv hv i wr => w = wr ∧ ∃ q : Nat, 1 ≤ q ∧ q ≤ 4 ∧ i = .int .i64 (q : Int) ∧ lv = .int .u8 (if q = 1 then 128 else 128) ∧ hv = .int .u8 (if q = 1 then 191 else 191) ∧ Hid (∀ j, 1 ≤ j → j < q → (if j = 1 then 128 else 128) ≤ bAt bs (bs.length - m + j) ∧ bAt bs (bs.length - m + j) ≤ (if j = 1 then 191 else 191))) (fun _ _ i _ => ((4 : Int) - intOf i).toNat)
                    case atStart => exact ⟨rfl, 1, by omega, by omega, by simp, by simp, by simp, hide (fun j h1 h2 => by omega)⟩
                    case round =>
                      obtain ⟨rfl, q, hq1, hqK, rfl, rfl, rfl, HOK⟩ := hrel
                      by_cases hqlt : (q : Int) < 4
                      · have hqm : (q : Int) < (m : Int) := by omega
                        obtain ⟨cj, hcj⟩ : ∃ z, bAt bs (bs.length - m + q) = z := ⟨_, rfl⟩
                        have HCJ := hide hcj
                        have ej : w.cell? ⟨g, bs.length - m + q, none⟩ = some (.int .u8 (cj : Int)) := by
                          obtain ⟨x, hx⟩ : ∃ x, bs[bs.length - m + q]? = some x := ⟨_, List.getElem?_eq_getElem (by have := (unhide HRI).le; omega)⟩
                          have h1 := unhide HBY _ x hx
                          rw [← hcj]
                          unfold bAt
                          rw [List.getD_eq_getElem?_getD, hx]
                          exact h1
                        rw [show bs.length = bl from unhide HBL] at ej
                        obtain ⟨lo, hlo⟩ : ∃ z : Int, (if q = 1 then (128 : Int) else 128) = z := ⟨_, rfl⟩
                        obtain ⟨hi, hhi⟩ : ∃ z : Int, (if q = 1 then (191 : Int) else 191) = z := ⟨_, rfl⟩
                        rw [hlo, hhi]
                        have hlob : 0 ≤ lo ∧ lo ≤ 255 := by rw [← hlo]; split <;> omega
                        have hhib : 0 ≤ hi ∧ hi ≤ 255 := by rw [← hhi]; split <;> omega
                        have HLOQ := hide hlo
                        have HHIQ := hide hhi
                        clear hlo hhi hcj
                        by_cases hb1 : (cj : Int) < lo
                        · have HF : Hid (runeV bs = -1) := hide ((unhide HRI).fail hm0 (fun z => unhide HWN z q (by omega) (by omega) (fun h => by have h2 := unhide HLOQ; rw [unhide HCJ] at h; split at h2 <;> split at h <;> omega)))
                          go_wp2_with fail
                          go_ret
                          exact ⟨by rw [unhide HF] <;> rfl, rfl⟩
                        · by_cases hb2 : hi < (cj : Int)
                          · have HF : Hid (runeV bs = -1) := hide ((unhide HRI).fail hm0 (fun z => unhide HWN z q (by omega) (by omega) (fun h => by have h2 := unhide HHIQ; rw [unhide HCJ] at h; split at h2 <;> split at h <;> omega)))
                            go_wp2_with fail
                            go_ret
                            exact ⟨by rw [unhide HF] <;> rfl, rfl⟩
                          · have HOK2 : Hid (∀ j, 1 ≤ j → j < q + 1 → (if j = 1 then 128 else 128) ≤ bAt bs (bs.length - m + j) ∧ bAt bs (bs.length - m + j) ≤ (if j = 1 then 191 else 191)) := hide (fun j h1 h2 => by
                              by_cases hj : j = q
                              · have h3 := unhide HLOQ
                                have h4 := unhide HHIQ
                                rw [hj, unhide HCJ]
                                by_cases hq1e : q = 1
                                · simp only [if_pos hq1e] at h3 h4 ⊢; omega
                                · simp only [if_neg hq1e] at h3 h4 ⊢; omega
                              · exact unhide HOK j h1 (by omega))
                            go_wp2_with fail
                            exact ⟨⟨by first | trivial | rfl, q + 1, by omega, by omega, by simp, by simp <;> omega, by simp <;> omega, HOK2⟩, by simp [intOf] <;> omega⟩
                      · obtain rfl : q = 4 := by omega
                        have hWF : WfAt bs m := unhide HWY (unhide HOK)
                        have hnx := (unhide HRI).next hm0 hWF
                        rw [unhide HC0, unhide HKV] at hnx
                        have HRN := hide hnx.1
                        clear hWF hnx
                        obtain ⟨a2, ha2⟩ : ∃ z, (if cc = 4 then some (⟨g, bl - m, none⟩ : Addr) else some ⟨g, bl - m + 4, none⟩) = z := ⟨_, rfl⟩
                        have HA2 := hide ha2
                        go_wp2_with fail
                        exact ⟨⟨by first | trivial | rfl, m - 4, n + 1, cc - 4, a2, by first | trivial | rfl, by first | trivial | (push_cast; rfl), by omega, by omega, by omega, hide (fun h => by have h2 := unhide HA2; rw [if_neg (by omega)] at h2; rw [← h2]; congr 2; omega), HRN⟩, by simp [mlen]; omega⟩
            · have HF : Hid (runeV bs = -1) := hide ((unhide HRI).fail hm0 (fun q => q.1 (by rw [unhide HC0]; unfold wfK; rw [if_neg (by omega), if_neg (by omega), if_neg (by omega), if_neg (by omega)])))
              by_cases p1 : (194 : Int) ≤ (c0 : Int)
              · have p2 : ¬ (c0 : Int) ≤ 223 := by omega
                have p3 : (224 : Int) ≤ (c0 : Int) := by omega
                have p4 : ¬ (c0 : Int) ≤ 239 := by omega
                have p5 : (240 : Int) ≤ (c0 : Int) := by omega
                have p6 : ¬ (c0 : Int) ≤ 244 := by omega
                clear k2 k3 k4 t2
                go_wp2_with fail
                go_ret
                exact ⟨by rw [unhide HF] <;> rfl, rfl⟩
              · have p3 : ¬ (224 : Int) ≤ (c0 : Int) := by omega
                have p5 : ¬ (240 : Int) ≤ (c0 : Int) := by omega
                clear k2 k3 k4 t2
                go_wp2_with fail
                go_ret
                exact ⟨by rw [unhide HF] <;> rfl, rfl⟩
    · obtain rfl : m = 0 := by omega
      have HE := hide (unhide HRI).ends
      go_wp2_with fail
      go_ret
      exact ⟨by rw [unhide HE] <;> rfl, rfl⟩
end Go.Proofs.YtonabfpgdgnpnaaDoor
