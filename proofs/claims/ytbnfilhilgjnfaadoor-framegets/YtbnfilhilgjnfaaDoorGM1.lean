/- The document's side: sizes, weights, checks and bytes of messages. -/
import Derived.Test.YtbnfilhilgjnfaaDoorEAll
import Derived.Deep.LoopGhost
import Derived.Lib.ConvBytes
import Derived.Test.YtbnfilhilgjnfaaDoorGChk
import Derived.Test.YtbnfilhilgjnfaaDoorGSml
import Derived.Test.YtbnfilhilgjnfaaDoorGPut
namespace Go.Proofs.YtbnfilhilgjnfaaDoor.Ed
set_option linter.unusedVariables false
set_option linter.unusedSimpArgs false
open Go.Lib

/-- how many bytes a code point has that begins so; 0: none does -/
def wfK (b : Nat) : Nat := if b < 128 then 1 else if 194 ≤ b ∧ b ≤ 223 then 2 else if 224 ≤ b ∧ b ≤ 239 then 3 else if 240 ≤ b ∧ b ≤ 244 then 4 else 0
def wfLo (b : Nat) : Nat := if b = 224 then 160 else if b = 240 then 144 else 128
def wfHi (b : Nat) : Nat := if b = 237 then 159 else if b = 244 then 143 else 191
/-- these are well formed -/
def Wf (n b0 b1 b2 b3 : Nat) : Prop := wfK b0 ≠ 0 ∧ wfK b0 ≤ n ∧ (1 < wfK b0 → wfLo b0 ≤ b1 ∧ b1 ≤ wfHi b0) ∧ (2 < wfK b0 → 128 ≤ b2 ∧ b2 ≤ 191) ∧ (3 < wfK b0 → 128 ≤ b3 ∧ b3 ≤ 191)
theorem wf_dec {n b0 b1 b2 b3 : Nat} (h0 : b0 < 256) (h1 : b1 < 256) (h2 : b2 < 256) (h3 : b3 < 256) (hn : 1 ≤ n) :
    (Wf n b0 b1 b2 b3 → ¬ ((decodeN n b0 b1 b2 b3).1 = 65533 ∧ (decodeN n b0 b1 b2 b3).2 = 1) ∧ (decodeN n b0 b1 b2 b3).2 = wfK b0) ∧ (¬ Wf n b0 b1 b2 b3 → (decodeN n b0 b1 b2 b3).1 = 65533 ∧ (decodeN n b0 b1 b2 b3).2 = 1) := by
  by_cases a0 : b0 < 128
  · have hk : wfK b0 = 1 := by unfold wfK; rw [if_pos a0]
    have hd : decodeN n b0 b1 b2 b3 = (b0, 1) := by unfold decodeN; rw [if_pos a0]
    refine ⟨fun _ => ?_, fun hw => ?_⟩
    · rw [hd, hk]; simp; omega
    · exfalso; apply hw
      refine ⟨by omega, by omega, fun h => by omega, fun h => by omega, fun h => by omega⟩
  by_cases a1 : 194 ≤ b0 ∧ b0 ≤ 223
  · have hk : wfK b0 = 2 := by unfold wfK; rw [if_neg a0, if_pos a1]
    have hlo : wfLo b0 = 128 := by unfold wfLo; rw [if_neg (by omega), if_neg (by omega)]
    have hhi : wfHi b0 = 191 := by unfold wfHi; rw [if_neg (by omega), if_neg (by omega)]
    by_cases hc : 1 < n ∧ b1 / 64 = 2
    · have hd : decodeN n b0 b1 b2 b3 = (b0 % 32 * 64 + b1 % 64, 2) := by
        unfold decodeN; rw [if_neg a0, if_pos ⟨by omega, hc⟩, if_pos (by omega)]
      refine ⟨fun _ => by rw [hd, hk]; simp, fun hw => ?_⟩
      exfalso; apply hw
      refine ⟨by omega, by omega, fun h => by omega, fun h => by omega, fun h => by omega⟩
    · have hd : decodeN n b0 b1 b2 b3 = (65533, 1) := by
        unfold decodeN; rw [if_neg a0, if_neg (by omega), if_neg (by omega), if_neg (by omega)]
      refine ⟨fun hw => ?_, fun _ => by rw [hd]; simp⟩
      exfalso
      obtain ⟨w1, w2, w3, _⟩ := hw
      have := w3 (by omega)
      omega
  by_cases a2 : 224 ≤ b0 ∧ b0 ≤ 239
  · have hk : wfK b0 = 3 := by unfold wfK; rw [if_neg a0, if_neg a1, if_pos a2]
    by_cases hc : (1 < n ∧ b1 / 64 = 2) ∧ (2 < n ∧ b2 / 64 = 2)
    · have hd : decodeN n b0 b1 b2 b3 = (if b0 % 16 * 4096 + b1 % 64 * 64 + b2 % 64 ≥ 2048 ∧ (b0 % 16 * 4096 + b1 % 64 * 64 + b2 % 64 < 55296 ∨ (57344 ≤ b0 % 16 * 4096 + b1 % 64 * 64 + b2 % 64 ∧ b0 % 16 * 4096 + b1 % 64 * 64 + b2 % 64 ≤ 1114111)) then (b0 % 16 * 4096 + b1 % 64 * 64 + b2 % 64, 3) else (65533, 1)) := by
        unfold decodeN; rw [if_neg a0, if_neg (by omega), if_pos ⟨by omega, hc.1, hc.2⟩]
      by_cases hv : b0 % 16 * 4096 + b1 % 64 * 64 + b2 % 64 ≥ 2048 ∧ (b0 % 16 * 4096 + b1 % 64 * 64 + b2 % 64 < 55296 ∨ (57344 ≤ b0 % 16 * 4096 + b1 % 64 * 64 + b2 % 64 ∧ b0 % 16 * 4096 + b1 % 64 * 64 + b2 % 64 ≤ 1114111))
      · rw [if_pos hv] at hd
        refine ⟨fun _ => by rw [hd, hk]; simp, fun hw => ?_⟩
        exfalso; apply hw
        refine ⟨by omega, by omega, fun h => ?_, fun h => by omega, fun h => by omega⟩
        unfold wfLo wfHi
        constructor <;> split <;> (try split) <;> omega
      · rw [if_neg hv] at hd
        refine ⟨fun hw => ?_, fun _ => by rw [hd]; simp⟩
        exfalso; apply hv
        obtain ⟨w1, w2, w3, _⟩ := hw
        have h5 := w3 (by omega)
        unfold wfLo wfHi at h5
        by_cases e1 : b0 = 224
        · rw [if_pos e1] at h5; subst e1; simp at h5; omega
        · rw [if_neg e1] at h5
          by_cases e2 : b0 = 237
          · subst e2; simp at h5; omega
          · rw [if_neg e2] at h5; omega
    · have hd : decodeN n b0 b1 b2 b3 = (65533, 1) := by
        unfold decodeN; rw [if_neg a0, if_neg (by omega), if_neg (fun q => hc ⟨q.2.1, q.2.2⟩), if_neg (by omega)]
      refine ⟨fun hw => ?_, fun _ => by rw [hd]; simp⟩
      exfalso
      obtain ⟨w1, w2, w3, w4, _⟩ := hw
      have h5 := w3 (by omega)
      have h6 := w4 (by omega)
      have hlo : 128 ≤ wfLo b0 := by unfold wfLo; split; omega; split <;> omega
      have hhi : wfHi b0 ≤ 191 := by unfold wfHi; split; omega; split <;> omega
      omega
  by_cases a3 : 240 ≤ b0 ∧ b0 ≤ 244
  · have hk : wfK b0 = 4 := by unfold wfK; rw [if_neg a0, if_neg a1, if_neg a2, if_pos a3]
    by_cases hc : (1 < n ∧ b1 / 64 = 2) ∧ (2 < n ∧ b2 / 64 = 2) ∧ (3 < n ∧ b3 / 64 = 2)
    · have hd : decodeN n b0 b1 b2 b3 = (if b0 % 8 * 262144 + b1 % 64 * 4096 + b2 % 64 * 64 + b3 % 64 ≥ 65536 ∧ (b0 % 8 * 262144 + b1 % 64 * 4096 + b2 % 64 * 64 + b3 % 64 < 55296 ∨ (57344 ≤ b0 % 8 * 262144 + b1 % 64 * 4096 + b2 % 64 * 64 + b3 % 64 ∧ b0 % 8 * 262144 + b1 % 64 * 4096 + b2 % 64 * 64 + b3 % 64 ≤ 1114111)) then (b0 % 8 * 262144 + b1 % 64 * 4096 + b2 % 64 * 64 + b3 % 64, 4) else (65533, 1)) := by
        unfold decodeN; rw [if_neg a0, if_neg (by omega), if_neg (by omega), if_pos ⟨by omega, hc.1, hc.2.1, hc.2.2⟩]
      by_cases hv : b0 % 8 * 262144 + b1 % 64 * 4096 + b2 % 64 * 64 + b3 % 64 ≥ 65536 ∧ (b0 % 8 * 262144 + b1 % 64 * 4096 + b2 % 64 * 64 + b3 % 64 < 55296 ∨ (57344 ≤ b0 % 8 * 262144 + b1 % 64 * 4096 + b2 % 64 * 64 + b3 % 64 ∧ b0 % 8 * 262144 + b1 % 64 * 4096 + b2 % 64 * 64 + b3 % 64 ≤ 1114111))
      · rw [if_pos hv] at hd
        refine ⟨fun _ => by rw [hd, hk]; simp, fun hw => ?_⟩
        exfalso; apply hw
        refine ⟨by omega, by omega, fun h => ?_, fun h => by omega, fun h => by omega⟩
        unfold wfLo wfHi
        constructor <;> split <;> (try split) <;> omega
      · rw [if_neg hv] at hd
        refine ⟨fun hw => ?_, fun _ => by rw [hd]; simp⟩
        exfalso; apply hv
        obtain ⟨w1, w2, w3, w4, w5⟩ := hw
        have h5 := w3 (by omega)
        have h6 := w4 (by omega)
        have h7 := w5 (by omega)
        unfold wfLo wfHi at h5
        rw [if_neg (by omega)] at h5
        by_cases e1 : b0 = 240
        · subst e1; simp at h5; omega
        · rw [if_neg e1, if_neg (by omega)] at h5
          by_cases e2 : b0 = 244
          · subst e2; simp at h5; omega
          · rw [if_neg e2] at h5; omega
    · have hd : decodeN n b0 b1 b2 b3 = (65533, 1) := by
        unfold decodeN; rw [if_neg a0, if_neg (by omega), if_neg (by omega), if_neg (fun q => hc ⟨q.2.1, q.2.2.1, q.2.2.2⟩)]
      refine ⟨fun hw => ?_, fun _ => by rw [hd]; simp⟩
      exfalso
      obtain ⟨w1, w2, w3, w4, w5⟩ := hw
      have h5 := w3 (by omega)
      have h6 := w4 (by omega)
      have h7 := w5 (by omega)
      have hlo : 128 ≤ wfLo b0 := by unfold wfLo; split; omega; split <;> omega
      have hhi : wfHi b0 ≤ 191 := by unfold wfHi; split; omega; split <;> omega
      omega
  · have hk : wfK b0 = 0 := by unfold wfK; rw [if_neg a0, if_neg a1, if_neg a2, if_neg a3]
    refine ⟨fun hw => absurd hk hw.1, fun _ => ?_⟩
    have hd : decodeN n b0 b1 b2 b3 = (65533, 1) := by
      unfold decodeN
      rw [if_neg a0]
      by_cases c1 : b0 / 32 = 6 ∧ (1 < n ∧ b1 / 64 = 2)
      · rw [if_pos c1, if_neg (by omega)]
      · rw [if_neg c1, if_neg (by omega)]
        by_cases c3 : b0 / 8 = 30 ∧ (1 < n ∧ b1 / 64 = 2) ∧ (2 < n ∧ b2 / 64 = 2) ∧ (3 < n ∧ b3 / 64 = 2)
        · rw [if_pos c3, if_neg (by omega)]
        · rw [if_neg c3]
    rw [hd]; simp
/-- behind code points: the rest decides -/
theorem valid_pre : ∀ (pre : List (List UInt8)) (bs : List UInt8), Cps pre → validD (pre.flatten ++ bs) = validD bs
  | [], bs, _ => by simp
  | c :: pre, bs, h => by
    have hc := h.head
    rw [List.flatten_cons, List.append_assoc, validD_step _ (by simp [hc.ne]), hc.front, if_neg hc.ok, hc.all, List.drop_left]
    exact valid_pre pre bs h.tail
end Go.Proofs.YtbnfilhilgjnfaaDoor.Ed

namespace Go.Proofs.YtbnfilhilgjnfaaDoor.Ed
set_option linter.unusedVariables false
set_option linter.unusedSimpArgs false
open Go.ChangeShapes Go.WideShapes Go.ChangeAt Go.RowKit Go.Joins Go.Deep

/-- these bytes lie there -/
def BysAt (w : World) (g : Nat) (bs : List UInt8) : Prop := ∀ (j : Nat) (b : UInt8), bs[j]? = some b → w.cell? ⟨g, j, none⟩ = some (.int .u8 (b.toNat : Int))
theorem BysAt.call {w w' : World} {g : Nat} {bs : List UInt8} (h : BysAt w g bs) (hg : g < w.heap.size) (hb : Below w.heap.size w w') : BysAt w' g bs := fun j b hj => by
  rw [hb.cell (p := ⟨g, _, none⟩) hg]; exact h j b hj
def runeV (bs : List UInt8) : Int := if Lib.validD bs = true then (Lib.runeCount ⟨bs.toArray⟩ : Int) else -1
/-- the bytes from m before the end on begin with a code point of k bytes -/
def bAt (bs : List UInt8) (j : Nat) : Nat := (bs.getD j 0).toNat
def WfAt (bs : List UInt8) (m : Nat) : Prop := Wf m (bAt bs (bs.length - m)) (bAt bs (bs.length - m + 1)) (bAt bs (bs.length - m + 2)) (bAt bs (bs.length - m + 3))
theorem bAt_lt (bs : List UInt8) (j : Nat) : bAt bs j < 256 := by unfold bAt; exact UInt8.toNat_lt _
theorem dec_at (bs : List UInt8) {m : Nat} (hm : m ≤ bs.length) : Lib.decodeL (bs.drop (bs.length - m)) = Lib.decodeN m (bAt bs (bs.length - m)) (bAt bs (bs.length - m + 1)) (bAt bs (bs.length - m + 2)) (bAt bs (bs.length - m + 3)) := by
  rw [Lib.decodeL_N]
  unfold bAt
  simp only [List.getD_eq_getElem?_getD, List.getElem?_drop, List.length_drop, Nat.add_zero]
  rw [show bs.length - (bs.length - m) = m by omega]
/-- how far Runes has come -/
structure RI (bs : List UInt8) (m n : Nat) : Prop where
  le : m ≤ bs.length
  pre : ∃ cs, Cps cs ∧ bs = cs.flatten ++ bs.drop (bs.length - m) ∧ cs.length = n
theorem RI.fail {bs : List UInt8} {m n : Nat} (h : RI bs m n) (hm : 0 < m) (hw : ¬ WfAt bs m) : runeV bs = -1 := by
  obtain ⟨cs, h1, h2, h3⟩ := h.pre
  have hv : Lib.validD bs = Lib.validD (bs.drop (bs.length - m)) := by
    have := valid_pre cs (bs.drop (bs.length - m)) h1
    rw [← h2] at this
    exact this
  have hne : bs.drop (bs.length - m) ≠ [] := by
    intro e
    have h5 := congrArg List.length e
    rw [List.length_drop, List.length_nil] at h5
    have := h.le
    omega
  have hd := (wf_dec (bAt_lt bs _) (bAt_lt bs _) (bAt_lt bs _) (bAt_lt bs _) hm).2 hw
  rw [← dec_at bs h.le] at hd
  unfold runeV
  rw [hv, Lib.validD_step _ hne, if_pos hd]
  rfl
theorem RI.next {bs : List UInt8} {m n : Nat} (h : RI bs m n) (hm : 0 < m) (hw : WfAt bs m) : RI bs (m - wfK (bAt bs (bs.length - m))) (n + 1) ∧ wfK (bAt bs (bs.length - m)) ≤ m := by
  obtain ⟨cs, h1, h2, h3⟩ := h.pre
  have hd := (wf_dec (bAt_lt bs _) (bAt_lt bs _) (bAt_lt bs _) (bAt_lt bs _) hm).1 hw
  rw [← dec_at bs h.le] at hd
  obtain ⟨k, hk⟩ : ∃ k, wfK (bAt bs (bs.length - m)) = k := ⟨_, rfl⟩
  rw [hk] at hd ⊢
  have hkm : k ≤ m := by rw [← hk]; exact hw.2.1
  have hne : bs.drop (bs.length - m) ≠ [] := by
    intro e
    have h5 := congrArg List.length e
    rw [List.length_drop, List.length_nil] at h5
    have := h.le
    omega
  have hcp := cp_take hne hd.1
  rw [hd.2] at hcp
  have hle := h.le
  refine ⟨⟨by omega, cs ++ [(bs.drop (bs.length - m)).take k], h1.append (Cps.cons hcp Cps.nil), ?_, by simp [h3]⟩, hkm⟩
  rw [List.flatten_append, List.append_assoc]
  simp only [List.flatten_cons, List.flatten_nil, List.append_nil]
  have e : bs.drop (bs.length - (m - k)) = (bs.drop (bs.length - m)).drop k := by rw [List.drop_drop]; congr 1; omega
  rw [e, List.take_append_drop]
  exact h2
theorem RI.ends {bs : List UInt8} {n : Nat} (h : RI bs 0 n) : runeV bs = (n : Int) := by
  obtain ⟨cs, h1, h2, h3⟩ := h.pre
  simp at h2
  have hx : Tx ⟨bs.toArray⟩ cs := ⟨h1, by simpa using h2⟩
  have hv := hx.valid
  simp only at hv
  unfold runeV
  rw [if_pos (by simpa using hv), hx.count, h3]
def mlen : Value → Nat
  | .slice _ n _ => n
  | _ => 0
set_option maxRecDepth 100000 in
set_option maxHeartbeats 4000000 in
theorem runes_any (g cap : Nat) (bs : List UInt8) (w : World) (hb : BysAt w g bs) (hc : bs.length ≤ cap) (hm : cap ≤ maxLen) (hl : bs.length ≤ 281474976710656) (ao : Option Addr) (ha : bs ≠ [] → ao = some ⟨g, 0, none⟩) :
    Calls Tryd.prog 60 #[.slice ao bs.length cap] w fun r w' => r = .returned (.int .i64 (runeV bs)) ∧ w = w' := by
  have HBY := hide hb
  have HR0 : Hid (RI bs bs.length 0) := hide ⟨Nat.le_refl _, [], Cps.nil, by simp, rfl⟩
  have HA := hide ha
  obtain ⟨bl, hbl⟩ : ∃ z, bs.length = z := ⟨_, rfl⟩
  rw [hbl] at hc hl HR0 ⊢
  have HBL := hide hbl
  clear hb ha hbl
  go_enter Tryd.func60, Tryd.ntmps60
  go_wp2_with fail
  go_loopw [0, 3] (fun bv nv wr => w = wr ∧ ∃ (m n cc : Nat) (a : Option Addr), bv = .slice a m cc ∧ nv = .int .i64 (n : Int) ∧ m ≤ cc ∧ cc ≤ cap ∧ n + m ≤ bl ∧ Hid (m ≠ 0 → a = some ⟨g, bl - m, none⟩) ∧ Hid (RI bs m n)) (fun b _ _ => mlen b)
  case atStart => exact ⟨rfl, bl, 0, cap, ao, rfl, by simp, hc, by omega, by omega, hide (fun h => by rw [unhide HA (fun e => h (by rw [← unhide HBL, e]; rfl))]; simp), HR0⟩
  case round =>
    obtain ⟨rfl, m, n, cc, a, rfl, rfl, hmc, hcc, hnm, HAD, HRI⟩ := hrel
    by_cases hm0 : 0 < m
    · have hmI : (0 : Int) < (m : Int) := by omega
      obtain rfl := unhide HAD (by omega)
      obtain ⟨c0, hc0⟩ : ∃ z, bAt bs (bs.length - m) = z := ⟨_, rfl⟩
      have hc256 : c0 < 256 := by rw [← hc0]; exact bAt_lt _ _
      have hcI : (c0 : Int) < 256 := by omega
      have HC0 := hide hc0
      have ec : w.cell? ⟨g, bl - m, none⟩ = some (.int .u8 (c0 : Int)) := by
        obtain ⟨x, hx⟩ : ∃ x, bs[bs.length - m]? = some x := ⟨_, List.getElem?_eq_getElem (by have := (unhide HRI).le; omega)⟩
        have h1 := unhide HBY _ x hx
        rw [← hc0, ← unhide HBL]
        unfold bAt
        rw [List.getD_eq_getElem?_getD, hx]
        exact h1
      clear hc0
      by_cases k1 : (c0 : Int) < 128
      · have HKV : Hid (wfK c0 = 1) := hide (by unfold wfK; rw [if_pos (by omega)])
        have HLO : Hid (wfLo c0 = 128) := hide (by unfold wfLo; split; omega; split <;> omega)
        have HHI : Hid (wfHi c0 = 191) := hide (by unfold wfHi; split; omega; split <;> omega)
        by_cases hln : (m : Int) < 1
        · have HF : Hid (runeV bs = -1) := hide ((unhide HRI).fail hm0 (fun q => by have h1 := q.2.1; rw [unhide HC0, unhide HKV] at h1; omega))
          go_wp2_with fail
          go_ret
          exact ⟨by rw [unhide HF] <;> rfl, rfl⟩
        · have hlnN : 1 ≤ m := by omega
          have HWN : Hid (∀ z : WfAt bs m, ∀ j, 1 ≤ j → j < 1 → ¬ ((if j = 1 then 128 else 128) ≤ bAt bs (bs.length - m + j) ∧ bAt bs (bs.length - m + j) ≤ (if j = 1 then 191 else 191)) → False) := hide (fun z j h1 h2 hno => by
            unfold WfAt Wf at z
            rw [unhide HC0, unhide HKV, unhide HLO, unhide HHI] at z
            obtain ⟨_, _, z1, z2, z3⟩ := z
            apply hno
            match j, h1, h2 with
            | 0, h1, _ => omega
            | j + 1, _, h2 => omega
            )
          have HWY : Hid ((∀ j, 1 ≤ j → j < 1 → (if j = 1 then 128 else 128) ≤ bAt bs (bs.length - m + j) ∧ bAt bs (bs.length - m + j) ≤ (if j = 1 then 191 else 191)) → WfAt bs m) := hide (fun hall => by
            unfold WfAt Wf
            rw [unhide HC0, unhide HKV, unhide HLO, unhide HHI]
            exact ⟨by omega, by omega, (fun h => by omega), (fun h => by omega), (fun h => by omega)⟩)
          go_wp2_with fail
          go_loopw [5, 6, 8] (fun lv hv i wr => w = wr ∧ ∃ q : Nat, 1 ≤ q ∧ q ≤ 1 ∧ i = .int .i64 (q : Int) ∧ lv = .int .u8 (if q = 1 then 128 else 128) ∧ hv = .int .u8 (if q = 1 then 191 else 191) ∧ Hid (∀ j, 1 ≤ j → j < q → (if j = 1 then 128 else 128) ≤ bAt bs (bs.length - m + j) ∧ bAt bs (bs.length - m + j) ≤ (if j = 1 then 191 else 191))) (fun _ _ i _ => ((1 : Int) - intOf i).toNat)
          case atStart => exact ⟨rfl, 1, by omega, by omega, by simp, by simp, by simp, hide (fun j h1 h2 => by omega)⟩
          case round =>
            obtain ⟨rfl, q, hq1, hqK, rfl, rfl, rfl, HOK⟩ := hrel
            by_cases hqlt : (q : Int) < 1
            · have hqm : (q : Int) < (m : Int) := by omega
              obtain ⟨cj, hcj⟩ : ∃ z, bAt bs (bs.length - m + q) = z := ⟨_, rfl⟩
              have HCJ := hide hcj
              have ej : w.cell? ⟨g, bs.length - m + q, none⟩ = some (.int .u8 (cj : Int)) := by
                obtain ⟨x, hx⟩ : ∃ x, bs[bs.length - m + q]? = some x := ⟨_, List.getElem?_eq_getElem (by have := (unhide HRI).le; omega)⟩
                have h1 := unhide HBY _ x hx
                rw [← hcj]
                unfold bAt
                rw [List.getD_eq_getElem?_getD, hx]
                exact h1
              rw [show bs.length = bl from unhide HBL] at ej
              obtain ⟨lo, hlo⟩ : ∃ z : Int, (if q = 1 then (128 : Int) else 128) = z := ⟨_, rfl⟩
              obtain ⟨hi, hhi⟩ : ∃ z : Int, (if q = 1 then (191 : Int) else 191) = z := ⟨_, rfl⟩
              rw [hlo, hhi]
              have hlob : 0 ≤ lo ∧ lo ≤ 255 := by rw [← hlo]; split <;> omega
              have hhib : 0 ≤ hi ∧ hi ≤ 255 := by rw [← hhi]; split <;> omega
              have HLOQ := hide hlo
              have HHIQ := hide hhi
              clear hlo hhi hcj
              by_cases hb1 : (cj : Int) < lo
              · have HF : Hid (runeV bs = -1) := hide ((unhide HRI).fail hm0 (fun z => unhide HWN z q (by omega) (by omega) (fun h => by have h2 := unhide HLOQ; rw [unhide HCJ] at h; split at h2 <;> split at h <;> omega)))
                go_wp2_with fail
                go_ret
                exact ⟨by rw [unhide HF] <;> rfl, rfl⟩
              · by_cases hb2 : hi < (cj : Int)
                · have HF : Hid (runeV bs = -1) := hide ((unhide HRI).fail hm0 (fun z => unhide HWN z q (by omega) (by omega) (fun h => by have h2 := unhide HHIQ; rw [unhide HCJ] at h; split at h2 <;> split at h <;> omega)))
                  go_wp2_with fail
                  go_ret
                  exact ⟨by rw [unhide HF] <;> rfl, rfl⟩
                · have HOK2 : Hid (∀ j, 1 ≤ j → j < q + 1 → (if j = 1 then 128 else 128) ≤ bAt bs (bs.length - m + j) ∧ bAt bs (bs.length - m + j) ≤ (if j = 1 then 191 else 191)) := hide (fun j h1 h2 => by
                    by_cases hj : j = q
                    · have h3 := unhide HLOQ
                      have h4 := unhide HHIQ
                      rw [hj, unhide HCJ]
                      by_cases hq1e : q = 1
                      · simp only [if_pos hq1e] at h3 h4 ⊢; omega
                      · simp only [if_neg hq1e] at h3 h4 ⊢; omega
                    · exact unhide HOK j h1 (by omega))
                  go_wp2_with fail
                  exact ⟨⟨by first | trivial | rfl, q + 1, by omega, by omega, by simp, by simp <;> omega, by simp <;> omega, HOK2⟩, by simp [intOf] <;> omega⟩
            · obtain rfl : q = 1 := by omega
              have hWF : WfAt bs m := unhide HWY (unhide HOK)
              have hnx := (unhide HRI).next hm0 hWF
              rw [unhide HC0, unhide HKV] at hnx
              have HRN := hide hnx.1
              clear hWF hnx
              obtain ⟨a2, ha2⟩ : ∃ z, (if cc = 1 then some (⟨g, bl - m, none⟩ : Addr) else some ⟨g, bl - m + 1, none⟩) = z := ⟨_, rfl⟩
              have HA2 := hide ha2
              go_wp2_with fail
              exact ⟨⟨by first | trivial | rfl, m - 1, n + 1, cc - 1, a2, by first | trivial | rfl, by first | trivial | (push_cast; rfl), by omega, by omega, by omega, hide (fun h => by have h2 := unhide HA2; rw [if_neg (by omega)] at h2; rw [← h2]; congr 2; omega), HRN⟩, by simp [mlen]; omega⟩
      · by_cases k2 : (194 : Int) ≤ (c0 : Int) ∧ (c0 : Int) ≤ 223
        · obtain ⟨k2a, k2b⟩ := k2
          have HKV : Hid (wfK c0 = 2) := hide (by unfold wfK; rw [if_neg (by omega), if_pos (by omega)])
          have HLO : Hid (wfLo c0 = 128) := hide (by unfold wfLo; split; omega; split <;> omega)
          have HHI : Hid (wfHi c0 = 191) := hide (by unfold wfHi; split; omega; split <;> omega)
          by_cases hln : (m : Int) < 2
          · have HF : Hid (runeV bs = -1) := hide ((unhide HRI).fail hm0 (fun q => by have h1 := q.2.1; rw [unhide HC0, unhide HKV] at h1; omega))
            go_wp2_with fail
            go_ret
            exact ⟨by rw [unhide HF] <;> rfl, rfl⟩
          · have hlnN : 2 ≤ m := by omega
            have HWN : Hid (∀ z : WfAt bs m, ∀ j, 1 ≤ j → j < 2 → ¬ ((if j = 1 then 128 else 128) ≤ bAt bs (bs.length - m + j) ∧ bAt bs (bs.length - m + j) ≤ (if j = 1 then 191 else 191)) → False) := hide (fun z j h1 h2 hno => by
              unfold WfAt Wf at z
              rw [unhide HC0, unhide HKV, unhide HLO, unhide HHI] at z
              obtain ⟨_, _, z1, z2, z3⟩ := z
              apply hno
              match j, h1, h2 with
              | 1, _, _ => have := z1 (by omega); simp; omega
              | 0, h1, _ => omega
              | j + 2, _, h2 => omega
              )
            have HWY : Hid ((∀ j, 1 ≤ j → j < 2 → (if j = 1 then 128 else 128) ≤ bAt bs (bs.length - m + j) ∧ bAt bs (bs.length - m + j) ≤ (if j = 1 then 191 else 191)) → WfAt bs m) := hide (fun hall => by
              unfold WfAt Wf
              rw [unhide HC0, unhide HKV, unhide HLO, unhide HHI]
              exact ⟨by omega, by omega, (fun _ => by have := hall 1 (by omega) (by omega); simpa using this), (fun h => by omega), (fun h => by omega)⟩)
            go_wp2_with fail
            go_loopw [5, 6, 8] (fun lv hv i wr => w = wr ∧ ∃ q : Nat, 1 ≤ q ∧ q ≤ 2 ∧ i = .int .i64 (q : Int) ∧ lv = .int .u8 (if q = 1 then 128 else 128) ∧ hv = .int .u8 (if q = 1 then 191 else 191) ∧ Hid (∀ j, 1 ≤ j → j < q → (if j = 1 then 128 else 128) ≤ bAt bs (bs.length - m + j) ∧ bAt bs (bs.length - m + j) ≤ (if j = 1 then 191 else 191))) (fun _ _ i _ => ((2 : Int) - intOf i).toNat)
            case atStart => exact ⟨rfl, 1, by omega, by omega, by simp, by simp, by simp, hide (fun j h1 h2 => by omega)⟩
            case round =>
              obtain ⟨rfl, q, hq1, hqK, rfl, rfl, rfl, HOK⟩ := hrel
              by_cases hqlt : (q : Int) < 2
              · have hqm : (q : Int) < (m : Int) := by omega
                obtain ⟨cj, hcj⟩ : ∃ z, bAt bs (bs.length - m + q) = z := ⟨_, rfl⟩
                have HCJ := hide hcj
                have ej : w.cell? ⟨g, bs.length - m + q, none⟩ = some (.int .u8 (cj : Int)) := by
                  obtain ⟨x, hx⟩ : ∃ x, bs[bs.length - m + q]? = some x := ⟨_, List.getElem?_eq_getElem (by have := (unhide HRI).le; omega)⟩
                  have h1 := unhide HBY _ x hx
                  rw [← hcj]
                  unfold bAt
                  rw [List.getD_eq_getElem?_getD, hx]
                  exact h1
                rw [show bs.length = bl from unhide HBL] at ej
                obtain ⟨lo, hlo⟩ : ∃ z : Int, (if q = 1 then (128 : Int) else 128) = z := ⟨_, rfl⟩
                obtain ⟨hi, hhi⟩ : ∃ z : Int, (if q = 1 then (191 : Int) else 191) = z := ⟨_, rfl⟩
                rw [hlo, hhi]
                have hlob : 0 ≤ lo ∧ lo ≤ 255 := by rw [← hlo]; split <;> omega
                have hhib : 0 ≤ hi ∧ hi ≤ 255 := by rw [← hhi]; split <;> omega
                have HLOQ := hide hlo
                have HHIQ := hide hhi
                clear hlo hhi hcj
                by_cases hb1 : (cj : Int) < lo
                · have HF : Hid (runeV bs = -1) := hide ((unhide HRI).fail hm0 (fun z => unhide HWN z q (by omega) (by omega) (fun h => by have h2 := unhide HLOQ; rw [unhide HCJ] at h; split at h2 <;> split at h <;> omega)))
                  go_wp2_with fail
                  go_ret
                  exact ⟨by rw [unhide HF] <;> rfl, rfl⟩
                · by_cases hb2 : hi < (cj : Int)
                  · have HF : Hid (runeV bs = -1) := hide ((unhide HRI).fail hm0 (fun z => unhide HWN z q (by omega) (by omega) (fun h => by have h2 := unhide HHIQ; rw [unhide HCJ] at h; split at h2 <;> split at h <;> omega)))
                    go_wp2_with fail
                    go_ret
                    exact ⟨by rw [unhide HF] <;> rfl, rfl⟩
                  · have HOK2 : Hid (∀ j, 1 ≤ j → j < q + 1 → (if j = 1 then 128 else 128) ≤ bAt bs (bs.length - m + j) ∧ bAt bs (bs.length - m + j) ≤ (if j = 1 then 191 else 191)) := hide (fun j h1 h2 => by
                      by_cases hj : j = q
                      · have h3 := unhide HLOQ
                        have h4 := unhide HHIQ
                        rw [hj, unhide HCJ]
                        by_cases hq1e : q = 1
                        · simp only [if_pos hq1e] at h3 h4 ⊢; omega
                        · simp only [if_neg hq1e] at h3 h4 ⊢; omega
                      · exact unhide HOK j h1 (by omega))
                    go_wp2_with fail
                    exact ⟨⟨by first | trivial | rfl, q + 1, by omega, by omega, by simp, by simp <;> omega, by simp <;> omega, HOK2⟩, by simp [intOf] <;> omega⟩
              · obtain rfl : q = 2 := by omega
                have hWF : WfAt bs m := unhide HWY (unhide HOK)
                have hnx := (unhide HRI).next hm0 hWF
                rw [unhide HC0, unhide HKV] at hnx
                have HRN := hide hnx.1
                clear hWF hnx
                obtain ⟨a2, ha2⟩ : ∃ z, (if cc = 2 then some (⟨g, bl - m, none⟩ : Addr) else some ⟨g, bl - m + 2, none⟩) = z := ⟨_, rfl⟩
                have HA2 := hide ha2
                go_wp2_with fail
                exact ⟨⟨by first | trivial | rfl, m - 2, n + 1, cc - 2, a2, by first | trivial | rfl, by first | trivial | (push_cast; rfl), by omega, by omega, by omega, hide (fun h => by have h2 := unhide HA2; rw [if_neg (by omega)] at h2; rw [← h2]; congr 2; omega), HRN⟩, by simp [mlen]; omega⟩
        · have t2 : (decide ((194 : Int) ≤ (c0 : Int)) && decide ((c0 : Int) ≤ 223)) = false := by simp; omega
          by_cases k3 : (224 : Int) ≤ (c0 : Int) ∧ (c0 : Int) ≤ 239
          · obtain ⟨k3a, k3b⟩ := k3
            have n2 : ¬ (c0 : Int) ≤ 223 := by omega
            have n2a : (194 : Int) ≤ (c0 : Int) := by omega
            clear k2 t2
            by_cases e1 : (c0 : Int) = 224
            · have e1b : ((c0 : Int) == 224) = true := by simp [e1]
              have e1c : ((c0 : Int) == 237) = false := by simp; omega
              have HKV : Hid (wfK c0 = 3) := hide (by unfold wfK; rw [if_neg (by omega), if_neg (by omega), if_pos (by omega)])
              have HLO : Hid (wfLo c0 = 160) := hide (by unfold wfLo; split; omega; split <;> omega)
              have HHI : Hid (wfHi c0 = 191) := hide (by unfold wfHi; split; omega; split <;> omega)
              by_cases hln : (m : Int) < 3
              · have HF : Hid (runeV bs = -1) := hide ((unhide HRI).fail hm0 (fun q => by have h1 := q.2.1; rw [unhide HC0, unhide HKV] at h1; omega))
                go_wp2_with fail
                go_ret
                exact ⟨by rw [unhide HF] <;> rfl, rfl⟩
              · have hlnN : 3 ≤ m := by omega
                have HWN : Hid (∀ z : WfAt bs m, ∀ j, 1 ≤ j → j < 3 → ¬ ((if j = 1 then 160 else 128) ≤ bAt bs (bs.length - m + j) ∧ bAt bs (bs.length - m + j) ≤ (if j = 1 then 191 else 191)) → False) := hide (fun z j h1 h2 hno => by
                  unfold WfAt Wf at z
                  rw [unhide HC0, unhide HKV, unhide HLO, unhide HHI] at z
                  obtain ⟨_, _, z1, z2, z3⟩ := z
                  apply hno
                  match j, h1, h2 with
                  | 1, _, _ => have := z1 (by omega); simp; omega
                  | 2, _, _ => have := z2 (by omega); simp; omega
                  | 0, h1, _ => omega
                  | j + 3, _, h2 => omega
                  )
                have HWY : Hid ((∀ j, 1 ≤ j → j < 3 → (if j = 1 then 160 else 128) ≤ bAt bs (bs.length - m + j) ∧ bAt bs (bs.length - m + j) ≤ (if j = 1 then 191 else 191)) → WfAt bs m) := hide (fun hall => by
                  unfold WfAt Wf
                  rw [unhide HC0, unhide HKV, unhide HLO, unhide HHI]
                  exact ⟨by omega, by omega, (fun _ => by have := hall 1 (by omega) (by omega); simpa using this), (fun _ => by have := hall 2 (by omega) (by omega); simpa using this), (fun h => by omega)⟩)
                go_wp2_with fail
                go_loopw [5, 6, 8] (fun lv hv i wr => w = wr ∧ ∃ q : Nat, 1 ≤ q ∧ q ≤ 3 ∧ i = .int .i64 (q : Int) ∧ lv = .int .u8 (if q = 1 then 160 else 128) ∧ hv = .int .u8 (if q = 1 then 191 else 191) ∧ Hid (∀ j, 1 ≤ j → j < q → (if j = 1 then 160 else 128) ≤ bAt bs (bs.length - m + j) ∧ bAt bs (bs.length - m + j) ≤ (if j = 1 then 191 else 191))) (fun _ _ i _ => ((3 : Int) - intOf i).toNat)
                case atStart => exact ⟨rfl, 1, by omega, by omega, by simp, by simp, by simp, hide (fun j h1 h2 => by omega)⟩
                case round =>
                  obtain ⟨rfl, q, hq1, hqK, rfl, rfl, rfl, HOK⟩ := hrel
                  by_cases hqlt : (q : Int) < 3
                  · have hqm : (q : Int) < (m : Int) := by omega
                    obtain ⟨cj, hcj⟩ : ∃ z, bAt bs (bs.length - m + q) = z := ⟨_, rfl⟩
                    have HCJ := hide hcj
                    have ej : w.cell? ⟨g, bs.length - m + q, none⟩ = some (.int .u8 (cj : Int)) := by
                      obtain ⟨x, hx⟩ : ∃ x, bs[bs.length - m + q]? = some x := ⟨_, List.getElem?_eq_getElem (by have := (unhide HRI).le; omega)⟩
                      have h1 := unhide HBY _ x hx
                      rw [← hcj]
                      unfold bAt
                      rw [List.getD_eq_getElem?_getD, hx]
                      exact h1
                    rw [show bs.length = bl from unhide HBL] at ej
                    obtain ⟨lo, hlo⟩ : ∃ z : Int, (if q = 1 then (160 : Int) else 128) = z := ⟨_, rfl⟩
                    obtain ⟨hi, hhi⟩ : ∃ z : Int, (if q = 1 then (191 : Int) else 191) = z := ⟨_, rfl⟩
                    rw [hlo, hhi]
                    have hlob : 0 ≤ lo ∧ lo ≤ 255 := by rw [← hlo]; split <;> omega
                    have hhib : 0 ≤ hi ∧ hi ≤ 255 := by rw [← hhi]; split <;> omega
                    have HLOQ := hide hlo
                    have HHIQ := hide hhi
                    clear hlo hhi hcj
                    by_cases hb1 : (cj : Int) < lo
                    · have HF : Hid (runeV bs = -1) := hide ((unhide HRI).fail hm0 (fun z => unhide HWN z q (by omega) (by omega) (fun h => by have h2 := unhide HLOQ; rw [unhide HCJ] at h; split at h2 <;> split at h <;> omega)))
                      go_wp2_with fail
                      go_ret
                      exact ⟨by rw [unhide HF] <;> rfl, rfl⟩
                    · by_cases hb2 : hi < (cj : Int)
                      · have HF : Hid (runeV bs = -1) := hide ((unhide HRI).fail hm0 (fun z => unhide HWN z q (by omega) (by omega) (fun h => by have h2 := unhide HHIQ; rw [unhide HCJ] at h; split at h2 <;> split at h <;> omega)))
                        go_wp2_with fail
                        go_ret
                        exact ⟨by rw [unhide HF] <;> rfl, rfl⟩
                      · have HOK2 : Hid (∀ j, 1 ≤ j → j < q + 1 → (if j = 1 then 160 else 128) ≤ bAt bs (bs.length - m + j) ∧ bAt bs (bs.length - m + j) ≤ (if j = 1 then 191 else 191)) := hide (fun j h1 h2 => by
                          by_cases hj : j = q
                          · have h3 := unhide HLOQ
                            have h4 := unhide HHIQ
                            rw [hj, unhide HCJ]
                            by_cases hq1e : q = 1
                            · simp only [if_pos hq1e] at h3 h4 ⊢; omega
                            · simp only [if_neg hq1e] at h3 h4 ⊢; omega
                          · exact unhide HOK j h1 (by omega))
                        go_wp2_with fail
                        exact ⟨⟨by first | trivial | rfl, q + 1, by omega, by omega, by simp, by simp <;> omega, by simp <;> omega, HOK2⟩, by simp [intOf] <;> omega⟩
                  · obtain rfl : q = 3 := by omega
                    have hWF : WfAt bs m := unhide HWY (unhide HOK)
                    have hnx := (unhide HRI).next hm0 hWF
                    rw [unhide HC0, unhide HKV] at hnx
                    have HRN := hide hnx.1
                    clear hWF hnx
                    obtain ⟨a2, ha2⟩ : ∃ z, (if cc = 3 then some (⟨g, bl - m, none⟩ : Addr) else some ⟨g, bl - m + 3, none⟩) = z := ⟨_, rfl⟩
                    have HA2 := hide ha2
                    go_wp2_with fail
                    exact ⟨⟨by first | trivial | rfl, m - 3, n + 1, cc - 3, a2, by first | trivial | rfl, by first | trivial | (push_cast; rfl), by omega, by omega, by omega, hide (fun h => by have h2 := unhide HA2; rw [if_neg (by omega)] at h2; rw [← h2]; congr 2; omega), HRN⟩, by simp [mlen]; omega⟩
            · have e1b : ((c0 : Int) == 224) = false := by simp; omega
              by_cases e2 : (c0 : Int) = 237
              · have e2b : ((c0 : Int) == 237) = true := by simp [e2]
                have HKV : Hid (wfK c0 = 3) := hide (by unfold wfK; rw [if_neg (by omega), if_neg (by omega), if_pos (by omega)])
                have HLO : Hid (wfLo c0 = 128) := hide (by unfold wfLo; split; omega; split <;> omega)
                have HHI : Hid (wfHi c0 = 159) := hide (by unfold wfHi; split; omega; split <;> omega)
                by_cases hln : (m : Int) < 3
                · have HF : Hid (runeV bs = -1) := hide ((unhide HRI).fail hm0 (fun q => by have h1 := q.2.1; rw [unhide HC0, unhide HKV] at h1; omega))
                  go_wp2_with fail
                  go_ret
                  exact ⟨by rw [unhide HF] <;> rfl, rfl⟩
                · have hlnN : 3 ≤ m := by omega
                  have HWN : Hid (∀ z : WfAt bs m, ∀ j, 1 ≤ j → j < 3 → ¬ ((if j = 1 then 128 else 128) ≤ bAt bs (bs.length - m + j) ∧ bAt bs (bs.length - m + j) ≤ (if j = 1 then 159 else 191)) → False) := hide (fun z j h1 h2 hno => by
                    unfold WfAt Wf at z
                    rw [unhide HC0, unhide HKV, unhide HLO, unhide HHI] at z
                    obtain ⟨_, _, z1, z2, z3⟩ := z
                    apply hno
                    match j, h1, h2 with
                    | 1, _, _ => have := z1 (by omega); simp; omega
                    | 2, _, _ => have := z2 (by omega); simp; omega
                    | 0, h1, _ => omega
                    | j + 3, _, h2 => omega
                    )
                  have HWY : Hid ((∀ j, 1 ≤ j → j < 3 → (if j = 1 then 128 else 128) ≤ bAt bs (bs.length - m + j) ∧ bAt bs (bs.length - m + j) ≤ (if j = 1 then 159 else 191)) → WfAt bs m) := hide (fun hall => by
                    unfold WfAt Wf
                    rw [unhide HC0, unhide HKV, unhide HLO, unhide HHI]
                    exact ⟨by omega, by omega, (fun _ => by have := hall 1 (by omega) (by omega); simpa using this), (fun _ => by have := hall 2 (by omega) (by omega); simpa using this), (fun h => by omega)⟩)
                  go_wp2_with fail
                  go_loopw [5, 6, 8] (fun lv hv i wr => w = wr ∧ ∃ q : Nat, 1 ≤ q ∧ q ≤ 3 ∧ i = .int .i64 (q : Int) ∧ lv = .int .u8 (if q = 1 then 128 else 128) ∧ hv = .int .u8 (if q = 1 then 159 else 191) ∧ Hid (∀ j, 1 ≤ j → j < q → (if j = 1 then 128 else 128) ≤ bAt bs (bs.length - m + j) ∧ bAt bs (bs.length - m + j) ≤ (if j = 1 then 159 else 191))) (fun _ _ i _ => ((3 : Int) - intOf i).toNat)
                  case atStart => exact ⟨rfl, 1, by omega, by omega, by simp, by simp, by simp, hide (fun j h1 h2 => by omega)⟩
                  case round =>
                    obtain ⟨rfl, q, hq1, hqK, rfl, rfl, rfl, HOK⟩ := hrel
                    by_cases hqlt : (q : Int) < 3
                    · have hqm : (q : Int) < (m : Int) := by omega
                      obtain ⟨cj, hcj⟩ : ∃ z, bAt bs (bs.length - m + q) = z := ⟨_, rfl⟩
                      have HCJ := hide hcj
                      have ej : w.cell? ⟨g, bs.length - m + q, none⟩ = some (.int .u8 (cj : Int)) := by
                        obtain ⟨x, hx⟩ : ∃ x, bs[bs.length - m + q]? = some x := ⟨_, List.getElem?_eq_getElem (by have := (unhide HRI).le; omega)⟩
                        have h1 := unhide HBY _ x hx
                        rw [← hcj]
                        unfold bAt
                        rw [List.getD_eq_getElem?_getD, hx]
                        exact h1
                      rw [show bs.length = bl from unhide HBL] at ej
                      obtain ⟨lo, hlo⟩ : ∃ z : Int, (if q = 1 then (128 : Int) else 128) = z := ⟨_, rfl⟩
                      obtain ⟨hi, hhi⟩ : ∃ z : Int, (if q = 1 then (159 : Int) else 191) = z := ⟨_, rfl⟩
                      rw [hlo, hhi]
                      have hlob : 0 ≤ lo ∧ lo ≤ 255 := by rw [← hlo]; split <;> omega
                      have hhib : 0 ≤ hi ∧ hi ≤ 255 := by rw [← hhi]; split <;> omega
                      have HLOQ := hide hlo
                      have HHIQ := hide hhi
                      clear hlo hhi hcj
                      by_cases hb1 : (cj : Int) < lo
                      · have HF : Hid (runeV bs = -1) := hide ((unhide HRI).fail hm0 (fun z => unhide HWN z q (by omega) (by omega) (fun h => by have h2 := unhide HLOQ; rw [unhide HCJ] at h; split at h2 <;> split at h <;> omega)))
                        go_wp2_with fail
                        go_ret
                        exact ⟨by rw [unhide HF] <;> rfl, rfl⟩
                      · by_cases hb2 : hi < (cj : Int)
                        · have HF : Hid (runeV bs = -1) := hide ((unhide HRI).fail hm0 (fun z => unhide HWN z q (by omega) (by omega) (fun h => by have h2 := unhide HHIQ; rw [unhide HCJ] at h; split at h2 <;> split at h <;> omega)))
                          go_wp2_with fail
                          go_ret
                          exact ⟨by rw [unhide HF] <;> rfl, rfl⟩
                        · have HOK2 : Hid (∀ j, 1 ≤ j → j < q + 1 → (if j = 1 then 128 else 128) ≤ bAt bs (bs.length - m + j) ∧ bAt bs (bs.length - m + j) ≤ (if j = 1 then 159 else 191)) := hide (fun j h1 h2 => by
                            by_cases hj : j = q
                            · have h3 := unhide HLOQ
                              have h4 := unhide HHIQ
                              rw [hj, unhide HCJ]
                              by_cases hq1e : q = 1
                              · simp only [if_pos hq1e] at h3 h4 ⊢; omega
                              · simp only [if_neg hq1e] at h3 h4 ⊢; omega
                            · exact unhide HOK j h1 (by omega))
                          go_wp2_with fail
                          exact ⟨⟨by first | trivial | rfl, q + 1, by omega, by omega, by simp, by simp <;> omega, by simp <;> omega, HOK2⟩, by simp [intOf] <;> omega⟩
                    · obtain rfl : q = 3 := by omega
                      have hWF : WfAt bs m := unhide HWY (unhide HOK)
                      have hnx := (unhide HRI).next hm0 hWF
                      rw [unhide HC0, unhide HKV] at hnx
                      have HRN := hide hnx.1
                      clear hWF hnx
                      obtain ⟨a2, ha2⟩ : ∃ z, (if cc = 3 then some (⟨g, bl - m, none⟩ : Addr) else some ⟨g, bl - m + 3, none⟩) = z := ⟨_, rfl⟩
                      have HA2 := hide ha2
                      go_wp2_with fail
                      exact ⟨⟨by first | trivial | rfl, m - 3, n + 1, cc - 3, a2, by first | trivial | rfl, by first | trivial | (push_cast; rfl), by omega, by omega, by omega, hide (fun h => by have h2 := unhide HA2; rw [if_neg (by omega)] at h2; rw [← h2]; congr 2; omega), HRN⟩, by simp [mlen]; omega⟩
              · have e2b : ((c0 : Int) == 237) = false := by simp; omega
                have HKV : Hid (wfK c0 = 3) := hide (by unfold wfK; rw [if_neg (by omega), if_neg (by omega), if_pos (by omega)])
                have HLO : Hid (wfLo c0 = 128) := hide (by unfold wfLo; split; omega; split <;> omega)
                have HHI : Hid (wfHi c0 = 191) := hide (by unfold wfHi; split; omega; split <;> omega)
                by_cases hln : (m : Int) < 3
                · have HF : Hid (runeV bs = -1) := hide ((unhide HRI).fail hm0 (fun q => by have h1 := q.2.1; rw [unhide HC0, unhide HKV] at h1; omega))
                  go_wp2_with fail
                  go_ret
                  exact ⟨by rw [unhide HF] <;> rfl, rfl⟩
                · have hlnN : 3 ≤ m := by omega
                  have HWN : Hid (∀ z : WfAt bs m, ∀ j, 1 ≤ j → j < 3 → ¬ ((if j = 1 then 128 else 128) ≤ bAt bs (bs.length - m + j) ∧ bAt bs (bs.length - m + j) ≤ (if j = 1 then 191 else 191)) → False) := hide (fun z j h1 h2 hno => by
                    unfold WfAt Wf at z
                    rw [unhide HC0, unhide HKV, unhide HLO, unhide HHI] at z
                    obtain ⟨_, _, z1, z2, z3⟩ := z
                    apply hno
                    match j, h1, h2 with
                    | 1, _, _ => have := z1 (by omega); simp; omega
                    | 2, _, _ => have := z2 (by omega); simp; omega
                    | 0, h1, _ => omega
                    | j + 3, _, h2 => omega
                    )
                  have HWY : Hid ((∀ j, 1 ≤ j → j < 3 → (if j = 1 then 128 else 128) ≤ bAt bs (bs.length - m + j) ∧ bAt bs (bs.length - m + j) ≤ (if j = 1 then 191 else 191)) → WfAt bs m) := hide (fun hall => by
                    unfold WfAt Wf
                    rw [unhide HC0, unhide HKV, unhide HLO, unhide HHI]
                    exact ⟨by omega, by omega, (fun _ => by have := hall 1 (by omega) (by omega); simpa using this), (fun _ => by have := hall 2 (by omega) (by omega); simpa using this), (fun h => by omega)⟩)
                  go_wp2_with fail
                  go_loopw [5, 6, 8] (fun lv hv i wr => w = wr ∧ ∃ q : Nat, 1 ≤ q ∧ q ≤ 3 ∧ i = .int .i64 (q : Int) ∧ lv = .int .u8 (if q = 1 then 128 else 128) ∧ hv = .int .u8 (if q = 1 then 191 else 191) ∧ Hid (∀ j, 1 ≤ j → j < q → (if j = 1 then 128 else 128) ≤ bAt bs (bs.length - m + j) ∧ bAt bs (bs.length - m + j) ≤ (if j = 1 then 191 else 191))) (fun _ _ i _ => ((3 : Int) - intOf i).toNat)
                  case atStart => exact ⟨rfl, 1, by omega, by omega, by simp, by simp, by simp, hide (fun j h1 h2 => by omega)⟩
                  case round =>
                    obtain ⟨rfl, q, hq1, hqK, rfl, rfl, rfl, HOK⟩ := hrel
                    by_cases hqlt : (q : Int) < 3
                    · have hqm : (q : Int) < (m : Int) := by omega
                      obtain ⟨cj, hcj⟩ : ∃ z, bAt bs (bs.length - m + q) = z := ⟨_, rfl⟩
                      have HCJ := hide hcj
                      have ej : w.cell? ⟨g, bs.length - m + q, none⟩ = some (.int .u8 (cj : Int)) := by
                        obtain ⟨x, hx⟩ : ∃ x, bs[bs.length - m + q]? = some x := ⟨_, List.getElem?_eq_getElem (by have := (unhide HRI).le; omega)⟩
                        have h1 := unhide HBY _ x hx
                        rw [← hcj]
                        unfold bAt
                        rw [List.getD_eq_getElem?_getD, hx]
                        exact h1
                      rw [show bs.length = bl from unhide HBL] at ej
                      obtain ⟨lo, hlo⟩ : ∃ z : Int, (if q = 1 then (128 : Int) else 128) = z := ⟨_, rfl⟩
                      obtain ⟨hi, hhi⟩ : ∃ z : Int, (if q = 1 then (191 : Int) else 191) = z := ⟨_, rfl⟩
                      rw [hlo, hhi]
                      have hlob : 0 ≤ lo ∧ lo ≤ 255 := by rw [← hlo]; split <;> omega
                      have hhib : 0 ≤ hi ∧ hi ≤ 255 := by rw [← hhi]; split <;> omega
                      have HLOQ := hide hlo
                      have HHIQ := hide hhi
                      clear hlo hhi hcj
                      by_cases hb1 : (cj : Int) < lo
                      · have HF : Hid (runeV bs = -1) := hide ((unhide HRI).fail hm0 (fun z => unhide HWN z q (by omega) (by omega) (fun h => by have h2 := unhide HLOQ; rw [unhide HCJ] at h; split at h2 <;> split at h <;> omega)))
                        go_wp2_with fail
                        go_ret
                        exact ⟨by rw [unhide HF] <;> rfl, rfl⟩
                      · by_cases hb2 : hi < (cj : Int)
                        · have HF : Hid (runeV bs = -1) := hide ((unhide HRI).fail hm0 (fun z => unhide HWN z q (by omega) (by omega) (fun h => by have h2 := unhide HHIQ; rw [unhide HCJ] at h; split at h2 <;> split at h <;> omega)))
                          go_wp2_with fail
                          go_ret
                          exact ⟨by rw [unhide HF] <;> rfl, rfl⟩
                        · have HOK2 : Hid (∀ j, 1 ≤ j → j < q + 1 → (if j = 1 then 128 else 128) ≤ bAt bs (bs.length - m + j) ∧ bAt bs (bs.length - m + j) ≤ (if j = 1 then 191 else 191)) := hide (fun j h1 h2 => by
                            by_cases hj : j = q
                            · have h3 := unhide HLOQ
                              have h4 := unhide HHIQ
                              rw [hj, unhide HCJ]
                              by_cases hq1e : q = 1
                              · simp only [if_pos hq1e] at h3 h4 ⊢; omega
                              · simp only [if_neg hq1e] at h3 h4 ⊢; omega
                            · exact unhide HOK j h1 (by omega))
                          go_wp2_with fail
                          exact ⟨⟨by first | trivial | rfl, q + 1, by omega, by omega, by simp, by simp <;> omega, by simp <;> omega, HOK2⟩, by simp [intOf] <;> omega⟩
                    · obtain rfl : q = 3 := by omega
                      have hWF : WfAt bs m := unhide HWY (unhide HOK)
                      have hnx := (unhide HRI).next hm0 hWF
                      rw [unhide HC0, unhide HKV] at hnx
                      have HRN := hide hnx.1
                      clear hWF hnx
                      obtain ⟨a2, ha2⟩ : ∃ z, (if cc = 3 then some (⟨g, bl - m, none⟩ : Addr) else some ⟨g, bl - m + 3, none⟩) = z := ⟨_, rfl⟩
                      have HA2 := hide ha2
                      go_wp2_with fail
                      exact ⟨⟨by first | trivial | rfl, m - 3, n + 1, cc - 3, a2, by first | trivial | rfl, by first | trivial | (push_cast; rfl), by omega, by omega, by omega, hide (fun h => by have h2 := unhide HA2; rw [if_neg (by omega)] at h2; rw [← h2]; congr 2; omega), HRN⟩, by simp [mlen]; omega⟩
          · by_cases k4 : (240 : Int) ≤ (c0 : Int) ∧ (c0 : Int) ≤ 244
            · obtain ⟨k4a, k4b⟩ := k4
              have n2 : ¬ (c0 : Int) ≤ 223 := by omega
              have n2a : (194 : Int) ≤ (c0 : Int) := by omega
              have n3 : ¬ (c0 : Int) ≤ 239 := by omega
              have n3a : (224 : Int) ≤ (c0 : Int) := by omega
              clear k2 t2 k3
              by_cases e1 : (c0 : Int) = 240
              · have e1b : ((c0 : Int) == 240) = true := by simp [e1]
                have e1c : ((c0 : Int) == 244) = false := by simp; omega
                have HKV : Hid (wfK c0 = 4) := hide (by unfold wfK; rw [if_neg (by omega), if_neg (by omega), if_neg (by omega), if_pos (by omega)])
                have HLO : Hid (wfLo c0 = 144) := hide (by unfold wfLo; split; omega; split <;> omega)
                have HHI : Hid (wfHi c0 = 191) := hide (by unfold wfHi; split; omega; split <;> omega)
                by_cases hln : (m : Int) < 4
                · have HF : Hid (runeV bs = -1) := hide ((unhide HRI).fail hm0 (fun q => by have h1 := q.2.1; rw [unhide HC0, unhide HKV] at h1; omega))
                  go_wp2_with fail
                  go_ret
                  exact ⟨by rw [unhide HF] <;> rfl, rfl⟩
                · have hlnN : 4 ≤ m := by omega
                  have HWN : Hid (∀ z : WfAt bs m, ∀ j, 1 ≤ j → j < 4 → ¬ ((if j = 1 then 144 else 128) ≤ bAt bs (bs.length - m + j) ∧ bAt bs (bs.length - m + j) ≤ (if j = 1 then 191 else 191)) → False) := hide (fun z j h1 h2 hno => by
                    unfold WfAt Wf at z
                    rw [unhide HC0, unhide HKV, unhide HLO, unhide HHI] at z
                    obtain ⟨_, _, z1, z2, z3⟩ := z
                    apply hno
                    match j, h1, h2 with
                    | 1, _, _ => have := z1 (by omega); simp; omega
                    | 2, _, _ => have := z2 (by omega); simp; omega
                    | 3, _, _ => have := z3 (by omega); simp; omega
                    | 0, h1, _ => omega
                    | j + 4, _, h2 => omega
                    )
                  have HWY : Hid ((∀ j, 1 ≤ j → j < 4 → (if j = 1 then 144 else 128) ≤ bAt bs (bs.length - m + j) ∧ bAt bs (bs.length - m + j) ≤ (if j = 1 then 191 else 191)) → WfAt bs m) := hide (fun hall => by
                    unfold WfAt Wf
                    rw [unhide HC0, unhide HKV, unhide HLO, unhide HHI]
                    exact ⟨by omega, by omega, (fun _ => by have := hall 1 (by omega) (by omega); simpa using this), (fun _ => by have := hall 2 (by omega) (by omega); simpa using this), (fun _ => by have := hall 3 (by omega) (by omega); simpa using this)⟩)
                  go_wp2_with fail
                  go_loopw [5, 6, 8] (fun lv hv i wr => w = wr ∧ ∃ q : Nat, 1 ≤ q ∧ q ≤ 4 ∧ i = .int .i64 (q : Int) ∧ lv = .int .u8 (if q = 1 then 144 else 128) ∧ hv = .int .u8 (if q = 1 then 191 else 191) ∧ Hid (∀ j, 1 ≤ j → j < q → (if j = 1 then 144 else 128) ≤ bAt bs (bs.length - m + j) ∧ bAt bs (bs.length - m + j) ≤ (if j = 1 then 191 else 191))) (fun _ _ i _ => ((4 : Int) - intOf i).toNat)
                  case atStart => exact ⟨rfl, 1, by omega, by omega, by simp, by simp, by simp, hide (fun j h1 h2 => by omega)⟩
                  case round =>
                    obtain ⟨rfl, q, hq1, hqK, rfl, rfl, rfl, HOK⟩ := hrel
                    by_cases hqlt : (q : Int) < 4
                    · have hqm : (q : Int) < (m : Int) := by omega
                      obtain ⟨cj, hcj⟩ : ∃ z, bAt bs (bs.length - m + q) = z := ⟨_, rfl⟩
                      have HCJ := hide hcj
                      have ej : w.cell? ⟨g, bs.length - m + q, none⟩ = some (.int .u8 (cj : Int)) := by
                        obtain ⟨x, hx⟩ : ∃ x, bs[bs.length - m + q]? = some x := ⟨_, List.getElem?_eq_getElem (by have := (unhide HRI).le; omega)⟩
                        have h1 := unhide HBY _ x hx
                        rw [← hcj]
                        unfold bAt
                        rw [List.getD_eq_getElem?_getD, hx]
                        exact h1
                      rw [show bs.length = bl from unhide HBL] at ej
                      obtain ⟨lo, hlo⟩ : ∃ z : Int, (if q = 1 then (144 : Int) else 128) = z := ⟨_, rfl⟩
                      obtain ⟨hi, hhi⟩ : ∃ z : Int, (if q = 1 then (191 : Int) else 191) = z := ⟨_, rfl⟩
                      rw [hlo, hhi]
                      have hlob : 0 ≤ lo ∧ lo ≤ 255 := by rw [← hlo]; split <;> omega
                      have hhib : 0 ≤ hi ∧ hi ≤ 255 := by rw [← hhi]; split <;> omega
                      have HLOQ := hide hlo
                      have HHIQ := hide hhi
                      clear hlo hhi hcj
                      by_cases hb1 : (cj : Int) < lo
                      · have HF : Hid (runeV bs = -1) := hide ((unhide HRI).fail hm0 (fun z => unhide HWN z q (by omega) (by omega) (fun h => by have h2 := unhide HLOQ; rw [unhide HCJ] at h; split at h2 <;> split at h <;> omega)))
                        go_wp2_with fail
                        go_ret
                        exact ⟨by rw [unhide HF] <;> rfl, rfl⟩
                      · by_cases hb2 : hi < (cj : Int)
                        · have HF : Hid (runeV bs = -1) := hide ((unhide HRI).fail hm0 (fun z => unhide HWN z q (by omega) (by omega) (fun h => by have h2 := unhide HHIQ; rw [unhide HCJ] at h; split at h2 <;> split at h <;> omega)))
                          go_wp2_with fail
                          go_ret
                          exact ⟨by rw [unhide HF] <;> rfl, rfl⟩
                        · have HOK2 : Hid (∀ j, 1 ≤ j → j < q + 1 → (if j = 1 then 144 else 128) ≤ bAt bs (bs.length - m + j) ∧ bAt bs (bs.length - m + j) ≤ (if j = 1 then 191 else 191)) := hide (fun j h1 h2 => by
                            by_cases hj : j = q
                            · have h3 := unhide HLOQ
                              have h4 := unhide HHIQ
                              rw [hj, unhide HCJ]
                              by_cases hq1e : q = 1
                              · simp only [if_pos hq1e] at h3 h4 ⊢; omega
                              · simp only [if_neg hq1e] at h3 h4 ⊢; omega
                            · exact unhide HOK j h1 (by omega))
                          go_wp2_with fail
                          exact ⟨⟨by first | trivial | rfl, q + 1, by omega, by omega, by simp, by simp <;> omega, by simp <;> omega, HOK2⟩, by simp [intOf] <;> omega⟩
                    · obtain rfl : q = 4 := by omega
                      have hWF : WfAt bs m := unhide HWY (unhide HOK)
                      have hnx := (unhide HRI).next hm0 hWF
                      rw [unhide HC0, unhide HKV] at hnx
                      have HRN := hide hnx.1
                      clear hWF hnx
                      obtain ⟨a2, ha2⟩ : ∃ z, (if cc = 4 then some (⟨g, bl - m, none⟩ : Addr) else some ⟨g, bl - m + 4, none⟩) = z := ⟨_, rfl⟩
                      have HA2 := hide ha2
                      go_wp2_with fail
                      exact ⟨⟨by first | trivial | rfl, m - 4, n + 1, cc - 4, a2, by first | trivial | rfl, by first | trivial | (push_cast; rfl), by omega, by omega, by omega, hide (fun h => by have h2 := unhide HA2; rw [if_neg (by omega)] at h2; rw [← h2]; congr 2; omega), HRN⟩, by simp [mlen]; omega⟩
              · have e1b : ((c0 : Int) == 240) = false := by simp; omega
                by_cases e2 : (c0 : Int) = 244
                · have e2b : ((c0 : Int) == 244) = true := by simp [e2]
                  have HKV : Hid (wfK c0 = 4) := hide (by unfold wfK; rw [if_neg (by omega), if_neg (by omega), if_neg (by omega), if_pos (by omega)])
                  have HLO : Hid (wfLo c0 = 128) := hide (by unfold wfLo; split; omega; split <;> omega)
                  have HHI : Hid (wfHi c0 = 143) := hide (by unfold wfHi; split; omega; split <;> omega)
                  by_cases hln : (m : Int) < 4
                  · have HF : Hid (runeV bs = -1) := hide ((unhide HRI).fail hm0 (fun q => by have h1 := q.2.1; rw [unhide HC0, unhide HKV] at h1; omega))
                    go_wp2_with fail
                    go_ret
                    exact ⟨by rw [unhide HF] <;> rfl, rfl⟩
                  · have hlnN : 4 ≤ m := by omega
                    have HWN : Hid (∀ z : WfAt bs m, ∀ j, 1 ≤ j → j < 4 → ¬ ((if j = 1 then 128 else 128) ≤ bAt bs (bs.length - m + j) ∧ bAt bs (bs.length - m + j) ≤ (if j = 1 then 143 else 191)) → False) := hide (fun z j h1 h2 hno => by
                      unfold WfAt Wf at z
                      rw [unhide HC0, unhide HKV, unhide HLO, unhide HHI] at z
                      obtain ⟨_, _, z1, z2, z3⟩ := z
                      apply hno
                      match j, h1, h2 with
                      | 1, _, _ => have := z1 (by omega); simp; omega
                      | 2, _, _ => have := z2 (by omega); simp; omega
                      | 3, _, _ => have := z3 (by omega); simp; omega
                      | 0, h1, _ => omega
                      | j + 4, _, h2 => omega
                      )
                    have HWY : Hid ((∀ j, 1 ≤ j → j < 4 → (if j = 1 then 128 else 128) ≤ bAt bs (bs.length - m + j) ∧ bAt bs (bs.length - m + j) ≤ (if j = 1 then 143 else 191)) → WfAt bs m) := hide (fun hall => by
                      unfold WfAt Wf
                      rw [unhide HC0, unhide HKV, unhide HLO, unhide HHI]
                      exact ⟨by omega, by omega, (fun _ => by have := hall 1 (by omega) (by omega); simpa using this), (fun _ => by have := hall 2 (by omega) (by omega); simpa using this), (fun _ => by have := hall 3 (by omega) (by omega); simpa using this)⟩)
                    go_wp2_with fail
                    go_loopw [5, 6, 8] (fun lv hv i wr => w = wr ∧ ∃ q : Nat, 1 ≤ q ∧ q ≤ 4 ∧ i = .int .i64 (q : Int) ∧ lv = .int .u8 (if q = 1 then 128 else 128) ∧ hv = .int .u8 (if q = 1 then 143 else 191) ∧ Hid (∀ j, 1 ≤ j → j < q → (if j = 1 then 128 else 128) ≤ bAt bs (bs.length - m + j) ∧ bAt bs (bs.length - m + j) ≤ (if j = 1 then 143 else 191))) (fun _ _ i _ => ((4 : Int) - intOf i).toNat)
                    case atStart => exact ⟨rfl, 1, by omega, by omega, by simp, by simp, by simp, hide (fun j h1 h2 => by omega)⟩
                    case round =>
                      obtain ⟨rfl, q, hq1, hqK, rfl, rfl, rfl, HOK⟩ := hrel
                      by_cases hqlt : (q : Int) < 4
                      · have hqm : (q : Int) < (m : Int) := by omega
                        obtain ⟨cj, hcj⟩ : ∃ z, bAt bs (bs.length - m + q) = z := ⟨_, rfl⟩
                        have HCJ := hide hcj
                        have ej : w.cell? ⟨g, bs.length - m + q, none⟩ = some (.int .u8 (cj : Int)) := by
                          obtain ⟨x, hx⟩ : ∃ x, bs[bs.length - m + q]? = some x := ⟨_, List.getElem?_eq_getElem (by have := (unhide HRI).le; omega)⟩
                          have h1 := unhide HBY _ x hx
                          rw [← hcj]
                          unfold bAt
                          rw [List.getD_eq_getElem?_getD, hx]
                          exact h1
                        rw [show bs.length = bl from unhide HBL] at ej
                        obtain ⟨lo, hlo⟩ : ∃ z : Int, (if q = 1 then (128 : Int) else 128) = z := ⟨_, rfl⟩
                        obtain ⟨hi, hhi⟩ : ∃ z : Int, (if q = 1 then (143 : Int) else 191) = z := ⟨_, rfl⟩
                        rw [hlo, hhi]
                        have hlob : 0 ≤ lo ∧ lo ≤ 255 := by rw [← hlo]; split <;> omega
                        have hhib : 0 ≤ hi ∧ hi ≤ 255 := by rw [← hhi]; split <;> omega
                        have HLOQ := hide hlo
                        have HHIQ := hide hhi
                        clear hlo hhi hcj
                        by_cases hb1 : (cj : Int) < lo
                        · have HF : Hid (runeV bs = -1) := hide ((unhide HRI).fail hm0 (fun z => unhide HWN z q (by omega) (by omega) (fun h => by have h2 := unhide HLOQ; rw [unhide HCJ] at h; split at h2 <;> split at h <;> omega)))
                          go_wp2_with fail
                          go_ret
                          exact ⟨by rw [unhide HF] <;> rfl, rfl⟩
                        · by_cases hb2 : hi < (cj : Int)
                          · have HF : Hid (runeV bs = -1) := hide ((unhide HRI).fail hm0 (fun z => unhide HWN z q (by omega) (by omega) (fun h => by have h2 := unhide HHIQ; rw [unhide HCJ] at h; split at h2 <;> split at h <;> omega)))
                            go_wp2_with fail
                            go_ret
                            exact ⟨by rw [unhide HF] <;> rfl, rfl⟩
                          · have HOK2 : Hid (∀ j, 1 ≤ j → j < q + 1 → (if j = 1 then 128 else 128) ≤ bAt bs (bs.length - m + j) ∧ bAt bs (bs.length - m + j) ≤ (if j = 1 then 143 else 191)) := hide (fun j h1 h2 => by
                              by_cases hj : j = q
                              · have h3 := unhide HLOQ
                                have h4 := unhide HHIQ
                                rw [hj, unhide HCJ]
                                by_cases hq1e : q = 1
                                · simp only [if_pos hq1e] at h3 h4 ⊢; omega
                                · simp only [if_neg hq1e] at h3 h4 ⊢; omega
                              · exact unhide HOK j h1 (by omega))
                            go_wp2_with fail
                            exact ⟨⟨by first | trivial | rfl, q + 1, by omega, by omega, by simp, by simp <;> omega, by simp <;> omega, HOK2⟩, by simp [intOf] <;> omega⟩
                      · obtain rfl : q = 4 := by omega
                        have hWF : WfAt bs m := unhide HWY (unhide HOK)
                        have hnx := (unhide HRI).next hm0 hWF
                        rw [unhide HC0, unhide HKV] at hnx
                        have HRN := hide hnx.1
                        clear hWF hnx
                        obtain ⟨a2, ha2⟩ : ∃ z, (if cc = 4 then some (⟨g, bl - m, none⟩ : Addr) else some ⟨g, bl - m + 4, none⟩) = z := ⟨_, rfl⟩
                        have HA2 := hide ha2
                        go_wp2_with fail
                        exact ⟨⟨by first | trivial | rfl, m - 4, n + 1, cc - 4, a2, by first | trivial | rfl, by first | trivial | (push_cast; rfl), by omega, by omega, by omega, hide (fun h => by have h2 := unhide HA2; rw [if_neg (by omega)] at h2; rw [← h2]; congr 2; omega), HRN⟩, by simp [mlen]; omega⟩
                · have e2b : ((c0 : Int) == 244) = false := by simp; omega
                  have HKV : Hid (wfK c0 = 4) := hide (by unfold wfK; rw [if_neg (by omega), if_neg (by omega), if_neg (by omega), if_pos (by omega)])
                  have HLO : Hid (wfLo c0 = 128) := hide (by unfold wfLo; split; omega; split <;> omega)
                  have HHI : Hid (wfHi c0 = 191) := hide (by unfold wfHi; split; omega; split <;> omega)
                  by_cases hln : (m : Int) < 4
                  · have HF : Hid (runeV bs = -1) := hide ((unhide HRI).fail hm0 (fun q => by have h1 := q.2.1; rw [unhide HC0, unhide HKV] at h1; omega))
                    go_wp2_with fail
                    go_ret
                    exact ⟨by rw [unhide HF] <;> rfl, rfl⟩
                  · have hlnN : 4 ≤ m := by omega
                    have HWN : Hid (∀ z : WfAt bs m, ∀ j, 1 ≤ j → j < 4 → ¬ ((if j = 1 then 128 else 128) ≤ bAt bs (bs.length - m + j) ∧ bAt bs (bs.length - m + j) ≤ (if j = 1 then 191 else 191)) → False) := hide (fun z j h1 h2 hno => by
                      unfold WfAt Wf at z
                      rw [unhide HC0, unhide HKV, unhide HLO, unhide HHI] at z
                      obtain ⟨_, _, z1, z2, z3⟩ := z
                      apply hno
                      match j, h1, h2 with
                      | 1, _, _ => have := z1 (by omega); simp; omega
                      | 2, _, _ => have := z2 (by omega); simp; omega
                      | 3, _, _ => have := z3 (by omega); simp; omega
                      | 0, h1, _ => omega
                      | j + 4, _, h2 => omega
                      )
                    have HWY : Hid ((∀ j, 1 ≤ j → j < 4 → (if j = 1 then 128 else 128) ≤ bAt bs (bs.length - m + j) ∧ bAt bs (bs.length - m + j) ≤ (if j = 1 then 191 else 191)) → WfAt bs m) := hide (fun hall => by
                      unfold WfAt Wf
                      rw [unhide HC0, unhide HKV, unhide HLO, unhide HHI]
                      exact ⟨by omega, by omega, (fun _ => by have := hall 1 (by omega) (by omega); simpa using this), (fun _ => by have := hall 2 (by omega) (by omega); simpa using this), (fun _ => by have := hall 3 (by omega) (by omega); simpa using this)⟩)
                    go_wp2_with fail
                    go_loopw [5, 6, 8] (fun lv hv i wr => w = wr ∧ ∃ q : Nat, 1 ≤ q ∧ q ≤ 4 ∧ i = .int .i64 (q : Int) ∧ lv = .int .u8 (if q = 1 then 128 else 128) ∧ hv = .int .u8 (if q = 1 then 191 else 191) ∧ Hid (∀ j, 1 ≤ j → j < q → (if j = 1 then 128 else 128) ≤ bAt bs (bs.length - m + j) ∧ bAt bs (bs.length - m + j) ≤ (if j = 1 then 191 else 191))) (fun _ _ i _ => ((4 : Int) - intOf i).toNat)
                    case atStart => exact ⟨rfl, 1, by omega, by omega, by simp, by simp, by simp, hide (fun j h1 h2 => by omega)⟩
                    case round =>
                      obtain ⟨rfl, q, hq1, hqK, rfl, rfl, rfl, HOK⟩ := hrel
                      by_cases hqlt : (q : Int) < 4
                      · have hqm : (q : Int) < (m : Int) := by omega
                        obtain ⟨cj, hcj⟩ : ∃ z, bAt bs (bs.length - m + q) = z := ⟨_, rfl⟩
                        have HCJ := hide hcj
                        have ej : w.cell? ⟨g, bs.length - m + q, none⟩ = some (.int .u8 (cj : Int)) := by
                          obtain ⟨x, hx⟩ : ∃ x, bs[bs.length - m + q]? = some x := ⟨_, List.getElem?_eq_getElem (by have := (unhide HRI).le; omega)⟩
                          have h1 := unhide HBY _ x hx
                          rw [← hcj]
                          unfold bAt
                          rw [List.getD_eq_getElem?_getD, hx]
                          exact h1
                        rw [show bs.length = bl from unhide HBL] at ej
                        obtain ⟨lo, hlo⟩ : ∃ z : Int, (if q = 1 then (128 : Int) else 128) = z := ⟨_, rfl⟩
                        obtain ⟨hi, hhi⟩ : ∃ z : Int, (if q = 1 then (191 : Int) else 191) = z := ⟨_, rfl⟩
                        rw [hlo, hhi]
                        have hlob : 0 ≤ lo ∧ lo ≤ 255 := by rw [← hlo]; split <;> omega
                        have hhib : 0 ≤ hi ∧ hi ≤ 255 := by rw [← hhi]; split <;> omega
                        have HLOQ := hide hlo
                        have HHIQ := hide hhi
                        clear hlo hhi hcj
                        by_cases hb1 : (cj : Int) < lo
                        · have HF : Hid (runeV bs = -1) := hide ((unhide HRI).fail hm0 (fun z => unhide HWN z q (by omega) (by omega) (fun h => by have h2 := unhide HLOQ; rw [unhide HCJ] at h; split at h2 <;> split at h <;> omega)))
                          go_wp2_with fail
                          go_ret
                          exact ⟨by rw [unhide HF] <;> rfl, rfl⟩
                        · by_cases hb2 : hi < (cj : Int)
                          · have HF : Hid (runeV bs = -1) := hide ((unhide HRI).fail hm0 (fun z => unhide HWN z q (by omega) (by omega) (fun h => by have h2 := unhide HHIQ; rw [unhide HCJ] at h; split at h2 <;> split at h <;> omega)))
                            go_wp2_with fail
                            go_ret
                            exact ⟨by rw [unhide HF] <;> rfl, rfl⟩
                          · have HOK2 : Hid (∀ j, 1 ≤ j → j < q + 1 → (if j = 1 then 128 else 128) ≤ bAt bs (bs.length - m + j) ∧ bAt bs (bs.length - m + j) ≤ (if j = 1 then 191 else 191)) := hide (fun j h1 h2 => by
                              by_cases hj : j = q
                              · have h3 := unhide HLOQ
                                have h4 := unhide HHIQ
                                rw [hj, unhide HCJ]
                                by_cases hq1e : q = 1
                                · simp only [if_pos hq1e] at h3 h4 ⊢; omega
                                · simp only [if_neg hq1e] at h3 h4 ⊢; omega
                              · exact unhide HOK j h1 (by omega))
                            go_wp2_with fail
                            exact ⟨⟨by first | trivial | rfl, q + 1, by omega, by omega, by simp, by simp <;> omega, by simp <;> omega, HOK2⟩, by simp [intOf] <;> omega⟩
                      · obtain rfl : q = 4 := by omega
                        have hWF : WfAt bs m := unhide HWY (unhide HOK)
                        have hnx := (unhide HRI).next hm0 hWF
                        rw [unhide HC0, unhide HKV] at hnx
                        have HRN := hide hnx.1
                        clear hWF hnx
                        obtain ⟨a2, ha2⟩ : ∃ z, (if cc = 4 then some (⟨g, bl - m, none⟩ : Addr) else some ⟨g, bl - m + 4, none⟩) = z := ⟨_, rfl⟩
                        have HA2 := hide ha2
                        go_wp2_with fail
                        exact ⟨⟨by first | trivial | rfl, m - 4, n + 1, cc - 4, a2, by first | trivial | rfl, by first | trivial | (push_cast; rfl), by omega, by omega, by omega, hide (fun h => by have h2 := unhide HA2; rw [if_neg (by omega)] at h2; rw [← h2]; congr 2; omega), HRN⟩, by simp [mlen]; omega⟩
            · have HF : Hid (runeV bs = -1) := hide ((unhide HRI).fail hm0 (fun q => q.1 (by rw [unhide HC0]; unfold wfK; rw [if_neg (by omega), if_neg (by omega), if_neg (by omega), if_neg (by omega)])))
              by_cases p1 : (194 : Int) ≤ (c0 : Int)
              · have p2 : ¬ (c0 : Int) ≤ 223 := by omega
                have p3 : (224 : Int) ≤ (c0 : Int) := by omega
                have p4 : ¬ (c0 : Int) ≤ 239 := by omega
                have p5 : (240 : Int) ≤ (c0 : Int) := by omega
                have p6 : ¬ (c0 : Int) ≤ 244 := by omega
                clear k2 k3 k4 t2
                go_wp2_with fail
                go_ret
                exact ⟨by rw [unhide HF] <;> rfl, rfl⟩
              · have p3 : ¬ (224 : Int) ≤ (c0 : Int) := by omega
                have p5 : ¬ (240 : Int) ≤ (c0 : Int) := by omega
                clear k2 k3 k4 t2
                go_wp2_with fail
                go_ret
                exact ⟨by rw [unhide HF] <;> rfl, rfl⟩
    · obtain rfl : m = 0 := by omega
      have HE := hide (unhide HRI).ends
      go_wp2_with fail
      go_ret
      exact ⟨by rw [unhide HE] <;> rfl, rfl⟩
end Go.Proofs.YtbnfilhilgjnfaaDoor.Ed

namespace Go.Proofs.YtbnfilhilgjnfaaDoor.Ed
set_option linter.unusedVariables false
set_option linter.unusedSimpArgs false
open Go.ChangeShapes Go.WideShapes Go.ChangeAt Go.RowKit Go.Joins Go.Deep Go.Shelf

theorem bw_below (w : World) (s : ByteArray) : Below w.heap.size w (Lib.bytesWorld w 5 s) :=
  ⟨rfl, rfl, rfl, by rw [Lib.bytesWorld_size]; omega, fun k hk => Lib.bytesWorld_at_old w 5 s k hk⟩
theorem bw_bys (w : World) (s : ByteArray) : BysAt (Lib.bytesWorld w 5 s) w.heap.size s.data.toList := fun j b hj => by
  have hlt : j < s.data.toList.length := by
    rcases Nat.lt_or_ge j s.data.toList.length with h | h
    · exact h
    · rw [List.getElem?_eq_none h] at hj; cases hj
  rw [Lib.bytesWorld_cell w 5 s j (by rw [Lib.size_eq]; exact hlt), List.getD_eq_getElem?_getD, hj]
  rfl
theorem rune_fits (s : ByteArray) (n : Int) (hn : 1 ≤ n) : (runeV s.data.toList == n) = (Lib.validD s.data.toList && decide ((Lib.runeCount s : Int) = n)) := by
  unfold runeV
  cases h : Lib.validD s.data.toList with
  | false =>
    rw [if_neg (by simp)]
    simp; omega
  | true =>
    rw [if_pos rfl]
    simp only [Array.toArray_toList, Bool.true_and]
    rfl
set_option maxRecDepth 100000 in
set_option maxHeartbeats 4000000 in
theorem rfits_any (p : Pt) (w : World) (hs : p.text.size ≤ 281474976710656) : Calls Tryd.prog 51 #[pv p] w fun r w' => r = .returned (.bool (fitsB p)) ∧ Below w.heap.size w w' := by
  obtain ⟨k, n, s⟩ := p
  have hb : Below w.heap.size w (w.alloc (.cells #[.int .i64 k, .int .i64 n, .string s] 44)) := (Below.refl _ _).alloc (Nat.le_refl _) _
  have HB := hide hb
  have hrow := RowAt.new w 44 [.int .i64 k, .int .i64 n, .string s]
  simp only at hs
  have HSB := hide hs
  clear hb hs
  unfold pv fitsB
  simp only
  by_cases h1 : n < 1
  · have hd : decide (1 ≤ n) = false := by simp; omega
    rw [hd]
    simp only [Bool.false_and]
    go_enter Tryd.func51, Tryd.ntmps51
    go_wp2_with fail
    go_ret
    exact ⟨rfl, unhide HB⟩
  have hd1 : decide (1 ≤ n) = true := by simp; omega
  rw [hd1]
  by_cases h2 : 1099511627776 < n
  · have hd : decide (n ≤ 1099511627776) = false := by simp; omega
    rw [hd]
    simp only [Bool.false_and, Bool.and_false]
    go_enter Tryd.func51, Tryd.ntmps51
    go_wp2_with fail
    go_ret
    exact ⟨rfl, unhide HB⟩
  have hd2 : decide (n ≤ 1099511627776) = true := by simp; omega
  rw [hd2]
  simp only [Bool.true_and]
  clear hd1 hd2
  by_cases k1 : k = 1
  · subst k1
    obtain ⟨q, hq⟩ : ∃ q, decide (s.size = 0) = q := ⟨_, rfl⟩
    have he := toList_empty s
    rw [hq] at he
    simp only [decide_true, Bool.true_or, Bool.true_and, show decide ((1 : Int) = 2) = false from rfl, Bool.false_and, Bool.or_false, hq]
    clear hq
    go_enter Tryd.func51, Tryd.ntmps51
    go_wp2_with fail
    go_ret
    exact ⟨by simp [he], unhide HB⟩
  by_cases k3 : k = 3
  · subst k3
    obtain ⟨q, hq⟩ : ∃ q, decide (s.size = 0) = q := ⟨_, rfl⟩
    have he := toList_empty s
    rw [hq] at he
    simp only [decide_true, Bool.or_true, Bool.true_and, show decide ((3 : Int) = 2) = false from rfl, Bool.false_and, Bool.or_false, hq]
    clear hq
    go_enter Tryd.func51, Tryd.ntmps51
    go_wp2_with fail
    go_ret
    exact ⟨by simp [he], unhide HB⟩
  by_cases k2 : k = 2
  · subst k2
    simp only [show decide ((2 : Int) = 1) = false from rfl, show decide ((2 : Int) = 3) = false from rfl, Bool.or_self, Bool.false_and, Bool.false_or, decide_true, Bool.true_and]
    rw [← rune_fits s n (by omega)]
    have HRW := hide hrow
    have HS : Hid (∀ W, Below (w.alloc (.cells #[.int .i64 2, .int .i64 n, .string s] 44)).heap.size (w.alloc (.cells #[.int .i64 2, .int .i64 n, .string s] 44)) W → (W.cell? ⟨w.heap.size, 1, none⟩ = some (.int .i64 n) ∧ W.cell? ⟨w.heap.size, 2, none⟩ = some (.string s))) := hide (fun W hW => ⟨((unhide HRW).below hW (unhide HRW).lt).cell 1, ((unhide HRW).below hW (unhide HRW).lt).cell 2⟩)
    clear hrow
    go_enter Tryd.func51, Tryd.ntmps51
    go_wp2_with fail
    obtain ⟨wA, hA⟩ : ∃ wA, (w.alloc (.cells #[.int .i64 2, .int .i64 n, .string s] 44)) = wA := ⟨_, rfl⟩
    rw [hA] at HS HB ⊢
    clear hA HRW
    have k0 : Below wA.heap.size wA wA.drew := (Below.refl _ _).drew
    refine wp_region_T (S := fun W => (W.cell? ⟨w.heap.size, 1, none⟩ = some (.int .i64 n) ∧ W.cell? ⟨w.heap.size, 2, none⟩ = some (.string s))) (fun i => decide (i < 8)) (by kernel_rfl) (unhide HS _ k0) (fun hHeld => ?_)
    refine wpAnyT_take (i := 0) (oi := { dst := some 14, op := Op.fieldAddr 44 (Operand.tmp 1) 2, type := 0, pos := "ref.go:22", after := #[], guard := none }) (v := .pointer (some ⟨w.heap.size, 2, none⟩)) rfl (by kernel_rfl) (by kernel_rfl) (by kernel_rfl) (by kernel_rfl) (fun _ _ _ h => h) (Or.inl ⟨by rfl, ?_⟩) hHeld ?_
    · intro w hSw
      obtain ⟨h3, h4⟩ := hSw
      first
        | rfl
        | (go_simp; done)
    try simp only [Act.put, List.setIfInBounds_toArray, List.set_cons_zero, List.set_cons_succ]
    refine wpAnyT_take (i := 1) (oi := { dst := some 15, op := Op.load 9 (Operand.tmp 14), type := 9, pos := "ref.go:22", after := #[{ on := 0, ground := Ground.data }], guard := none }) (v := .string s) rfl (by kernel_rfl) (by kernel_rfl) (by kernel_rfl) (by kernel_rfl) (fun _ _ _ h => h) (Or.inl ⟨by rfl, ?_⟩) hHeld ?_
    · intro w hSw
      obtain ⟨h3, h4⟩ := hSw
      first
        | rfl
        | (go_simp; done)
    try simp only [Act.put, List.setIfInBounds_toArray, List.set_cons_zero, List.set_cons_succ]
    refine wpAnyT_take (i := 4) (oi := { dst := some 18, op := Op.fieldAddr 44 (Operand.tmp 1) 1, type := 0, pos := "ref.go:22", after := #[], guard := none }) (v := .pointer (some ⟨w.heap.size, 1, none⟩)) rfl (by kernel_rfl) (by kernel_rfl) (by kernel_rfl) (by kernel_rfl) (fun _ _ _ h => h) (Or.inl ⟨by rfl, ?_⟩) hHeld ?_
    · intro w hSw
      obtain ⟨h3, h4⟩ := hSw
      first
        | rfl
        | (go_simp; done)
    try simp only [Act.put, List.setIfInBounds_toArray, List.set_cons_zero, List.set_cons_succ]
    refine wpAnyT_take (i := 5) (oi := { dst := some 19, op := Op.load 3 (Operand.tmp 18), type := 3, pos := "ref.go:22", after := #[{ on := 4, ground := Ground.data }], guard := none }) (v := .int .i64 n) rfl (by kernel_rfl) (by kernel_rfl) (by kernel_rfl) (by kernel_rfl) (fun _ _ _ h => h) (Or.inl ⟨by rfl, ?_⟩) hHeld ?_
    · intro w hSw
      obtain ⟨h3, h4⟩ := hSw
      first
        | rfl
        | (go_simp; done)
    try simp only [Act.put, List.setIfInBounds_toArray, List.set_cons_zero, List.set_cons_succ]
    refine wpAnyT_one (i := 2) (o := { dst := some 16, op := Op.convert 9 30 (Operand.tmp 15), type := 30, pos := "ref.go:22", after := #[{ on := 1, ground := Ground.data }], guard := none }) (by kernel_rfl) rfl (fun K hK => ?_)
    have hcv := Lib.run_convert_string_bytes (P := Tryd.prog) wA.drew 9 30 5 s Tryd.underlying9 Tryd.underlying30 Tryd.underlying5
    have HBY := hide (bw_bys wA.drew s)
    have HK1 := hide (k0.trans ((bw_below wA.drew s).mono k0.size))
    have HCA := hide (And.intro (grownCap_ge wA.drew s.size 0 5) (grownCap_le_maxLen wA.drew s.size 0 5 (by have := unhide HSB; unfold maxLen; omega)))
    obtain ⟨cap, hcap⟩ : ∃ z, grownCap wA.drew s.size 0 5 = z := ⟨_, rfl⟩
    obtain ⟨W1, hW1⟩ : ∃ z, Lib.bytesWorld wA.drew 5 s = z := ⟨_, rfl⟩
    obtain ⟨g, hg⟩ : ∃ z, wA.drew.heap.size = z := ⟨_, rfl⟩
    rw [hcap] at hcv HCA
    rw [hW1] at hcv HBY HK1
    rw [hg] at hcv HBY
    clear hcap hW1 hg
    go_wp2_with fail
    refine hK.out _ _ (fun _ => unhide HS _ (unhide HK1)) ?_
    clear hK K
    clear hcv
    try simp only [Act.put, List.setIfInBounds_toArray, List.set_cons_zero, List.set_cons_succ]
    refine wpAnyT_one (i := 3) (o := { dst := some 17, op := Op.call { callee := Callee.value (Operand.func 60), args := #[Operand.tmp 16], argTypes := #[30] }, type := 3, pos := "ref.go:22", after := #[{ on := 2, ground := Ground.data }], guard := none }) (by kernel_rfl) rfl (fun K hK => ?_)
    go_simp
    refine Calls.mono (show Calls Tryd.prog 60 #[.slice (some ⟨g, 0, none⟩) s.size cap] W1 _ from by have := runes_any g cap s.data.toList W1 (unhide HBY) (by rw [← Lib.size_eq]; exact (unhide HCA).1) (unhide HCA).2 (by rw [← Lib.size_eq]; exact unhide HSB) (some ⟨g, 0, none⟩) (fun _ => rfl); rw [← Lib.size_eq] at this; exact this) ?_
    rintro r w2 ⟨rfl, rfl⟩
    obtain ⟨mz, hmz⟩ : ∃ z, runeV s.data.toList = z := ⟨_, rfl⟩
    have HMZ := hide hmz
    rw [hmz]
    clear hmz
    go_wp2_with fail
    refine hK.out _ _ (fun _ => unhide HS _ (unhide HK1)) ?_
    clear hK K
    try simp only [Act.put, List.setIfInBounds_toArray, List.set_cons_zero, List.set_cons_succ]
    refine wpAnyT_take (i := 6) (oi := { dst := some 20, op := Op.binOp BinOp.eql 3 (Operand.tmp 17) (Operand.tmp 19) 3, type := 4, pos := "ref.go:22", after := #[{ on := 3, ground := Ground.data }, { on := 5, ground := Ground.data }], guard := none }) (v := .bool (mz == n)) rfl (by kernel_rfl) (by kernel_rfl) (by kernel_rfl) (by kernel_rfl) (fun _ _ _ h => h) (Or.inl ⟨by rfl, ?_⟩) (unhide HS _ (unhide HK1)) ?_
    · intro w hSw
      obtain ⟨h3, h4⟩ := hSw
      first
        | rfl
        | (go_simp; done)
    try simp only [Act.put, List.setIfInBounds_toArray, List.set_cons_zero, List.set_cons_succ]
    refine wpAnyT_take (i := 7) (oi := { dst := some 2, op := Op.assign (Operand.tmp 20), type := 4, pos := "ref.go:22", after := #[{ on := 6, ground := Ground.data }, { on := 3, ground := Ground.chain }, { on := 0, ground := Ground.phase }, { on := 1, ground := Ground.phase }, { on := 2, ground := Ground.phase }, { on := 3, ground := Ground.phase }, { on := 4, ground := Ground.phase }, { on := 5, ground := Ground.phase }, { on := 6, ground := Ground.phase }], guard := none }) (v := .bool (mz == n)) rfl (by kernel_rfl) (by kernel_rfl) (by kernel_rfl) (by kernel_rfl) (fun _ _ _ h => h) (Or.inl ⟨by rfl, ?_⟩) (unhide HS _ (unhide HK1)) ?_
    · intro w hSw
      obtain ⟨h3, h4⟩ := hSw
      first
        | rfl
        | (go_simp; done)
    try simp only [Act.put, List.setIfInBounds_toArray, List.set_cons_zero, List.set_cons_succ]
    refine wpAnyT_done (by kernel_rfl) ?_ _
    go_wp2_with fail
    go_ret
    exact ⟨by rw [unhide HMZ] <;> rfl, (unhide HB).trans ((unhide HK1).mono (unhide HB).size)⟩
  · have d1 : decide (k = 1) = false := by simp [k1]
    have d2 : decide (k = 2) = false := by simp [k2]
    have d3 : decide (k = 3) = false := by simp [k3]
    have e1 : (k == 1) = false := by simp [k1]
    have e2 : (k == 2) = false := by simp [k2]
    have e3 : (k == 3) = false := by simp [k3]
    rw [d1, d2, d3]
    simp only [Bool.or_self, Bool.false_and]
    clear hrow
    go_enter Tryd.func51, Tryd.ntmps51
    go_wp2_with fail
    go_ret
    exact ⟨rfl, unhide HB⟩
end Go.Proofs.YtbnfilhilgjnfaaDoor.Ed

namespace Go.Proofs.YtbnfilhilgjnfaaDoor.Ed
set_option linter.unusedVariables false
set_option linter.unusedSimpArgs false
open Go.ChangeShapes Go.WideShapes Go.ChangeAt Go.RowKit Go.Joins Go.Deep

abbrev zrsz0 : Oper := { dst := some 16, op := Op.load 44 (Operand.tmp 8), type := 44, pos := "ref.go:31", after := #[], guard := none }
abbrev zrsz1 : Oper := { dst := some 17, op := Op.call { callee := Callee.value (Operand.func 51), args := #[Operand.tmp 16], argTypes := #[44] }, type := 4, pos := "ref.go:31", after := #[{ on := 0, ground := Ground.data }], guard := none }
abbrev zrsz2 : Oper := { dst := some 18, op := Op.unOp UnOp.not 4 (Operand.tmp 17), type := 4, pos := "ref.go:31", after := #[{ on := 1, ground := Ground.data }], guard := none }
abbrev zrsz3 : Oper := { dst := some 19, op := Op.move (Operand.tmp 18), type := 4, pos := "ref.go:31", after := #[{ on := 2, ground := Ground.data }, { on := 1, ground := Ground.chain }], guard := none }
abbrev zrsz4 : Oper := { dst := some 20, op := Op.move (Operand.tmp 7), type := 3, pos := "ref.go:31", after := #[{ on := 3, ground := Ground.guard }], guard := some (3, false) }
abbrev zrsz5 : Oper := { dst := some 21, op := Op.binOp BinOp.gtr 3 (Operand.tmp 20) (Operand.const (Value.int IntKind.i64 0)) 3, type := 4, pos := "ref.go:31", after := #[{ on := 4, ground := Ground.data }, { on := 3, ground := Ground.guard }], guard := some (3, false) }
abbrev zrsz6 : Oper := { dst := some 22, op := Op.move (Operand.tmp 21), type := 4, pos := "ref.go:31", after := #[{ on := 5, ground := Ground.data }, { on := 3, ground := Ground.chain }, { on := 3, ground := Ground.guard }], guard := some (3, false) }
abbrev zrsz7 : Oper := { dst := some 23, op := Op.move (Operand.tmp 0), type := 23, pos := "ref.go:31", after := #[{ on := 6, ground := Ground.guard }], guard := some (6, true) }
abbrev zrsz8 : Oper := { dst := some 24, op := Op.move (Operand.tmp 7), type := 3, pos := "ref.go:31", after := #[{ on := 6, ground := Ground.guard }], guard := some (6, true) }
abbrev zrsz9 : Oper := { dst := some 25, op := Op.binOp BinOp.sub 3 (Operand.tmp 24) (Operand.const (Value.int IntKind.i64 1)) 3, type := 3, pos := "ref.go:31", after := #[{ on := 8, ground := Ground.data }, { on := 6, ground := Ground.guard }], guard := some (6, true) }
abbrev zrsz10 : Oper := { dst := some 26, op := Op.indexAddr 23 (Operand.tmp 23) (Operand.tmp 25), type := 0, pos := "ref.go:31", after := #[{ on := 7, ground := Ground.data }, { on := 9, ground := Ground.data }, { on := 6, ground := Ground.guard }], guard := some (6, true) }
abbrev zrsz11 : Oper := { dst := some 27, op := Op.fieldAddr 44 (Operand.tmp 26) 0, type := 0, pos := "ref.go:31", after := #[{ on := 10, ground := Ground.data }, { on := 6, ground := Ground.guard }], guard := some (6, true) }
abbrev zrsz12 : Oper := { dst := some 28, op := Op.load 3 (Operand.tmp 27), type := 3, pos := "ref.go:31", after := #[{ on := 11, ground := Ground.data }, { on := 6, ground := Ground.guard }], guard := some (6, true) }
abbrev zrsz13 : Oper := { dst := some 29, op := Op.fieldAddr 44 (Operand.tmp 8) 0, type := 0, pos := "ref.go:31", after := #[{ on := 6, ground := Ground.guard }], guard := some (6, true) }
abbrev zrsz14 : Oper := { dst := some 30, op := Op.load 3 (Operand.tmp 29), type := 3, pos := "ref.go:31", after := #[{ on := 13, ground := Ground.data }, { on := 6, ground := Ground.guard }], guard := some (6, true) }
abbrev zrsz15 : Oper := { dst := some 31, op := Op.binOp BinOp.eql 3 (Operand.tmp 28) (Operand.tmp 30) 3, type := 4, pos := "ref.go:31", after := #[{ on := 12, ground := Ground.data }, { on := 14, ground := Ground.data }, { on := 6, ground := Ground.guard }], guard := some (6, true) }
abbrev zrsz16 : Oper := { dst := some 32, op := Op.move (Operand.tmp 31), type := 4, pos := "ref.go:31", after := #[{ on := 15, ground := Ground.data }, { on := 6, ground := Ground.chain }, { on := 6, ground := Ground.guard }], guard := some (6, true) }
abbrev zrsz17 : Oper := { dst := some 33, op := Op.move (Operand.tmp 0), type := 23, pos := "ref.go:31", after := #[{ on := 16, ground := Ground.guard }], guard := some (16, false) }
abbrev zrsz18 : Oper := { dst := some 34, op := Op.move (Operand.tmp 7), type := 3, pos := "ref.go:31", after := #[{ on := 16, ground := Ground.guard }], guard := some (16, false) }
abbrev zrsz19 : Oper := { dst := some 35, op := Op.binOp BinOp.sub 3 (Operand.tmp 34) (Operand.const (Value.int IntKind.i64 1)) 3, type := 3, pos := "ref.go:31", after := #[{ on := 18, ground := Ground.data }, { on := 16, ground := Ground.guard }], guard := some (16, false) }
abbrev zrsz20 : Oper := { dst := some 36, op := Op.indexAddr 23 (Operand.tmp 33) (Operand.tmp 35), type := 0, pos := "ref.go:31", after := #[{ on := 17, ground := Ground.data }, { on := 19, ground := Ground.data }, { on := 16, ground := Ground.guard }], guard := some (16, false) }
abbrev zrsz21 : Oper := { dst := some 37, op := Op.fieldAddr 44 (Operand.tmp 36) 0, type := 0, pos := "ref.go:31", after := #[{ on := 20, ground := Ground.data }, { on := 16, ground := Ground.guard }], guard := some (16, false) }
abbrev zrsz22 : Oper := { dst := some 38, op := Op.load 3 (Operand.tmp 37), type := 3, pos := "ref.go:31", after := #[{ on := 21, ground := Ground.data }, { on := 16, ground := Ground.guard }], guard := some (16, false) }
abbrev zrsz23 : Oper := { dst := some 39, op := Op.binOp BinOp.eql 3 (Operand.tmp 38) (Operand.const (Value.int IntKind.i64 3)) 3, type := 4, pos := "ref.go:31", after := #[{ on := 22, ground := Ground.data }, { on := 16, ground := Ground.guard }], guard := some (16, false) }
abbrev zrsz24 : Oper := { dst := some 40, op := Op.move (Operand.tmp 39), type := 4, pos := "ref.go:31", after := #[{ on := 23, ground := Ground.data }, { on := 16, ground := Ground.chain }, { on := 16, ground := Ground.guard }], guard := some (16, false) }
abbrev zrsz25 : Oper := { dst := some 41, op := Op.fieldAddr 44 (Operand.tmp 8) 0, type := 0, pos := "ref.go:31", after := #[{ on := 24, ground := Ground.guard }], guard := some (24, true) }
abbrev zrsz26 : Oper := { dst := some 42, op := Op.load 3 (Operand.tmp 41), type := 3, pos := "ref.go:31", after := #[{ on := 25, ground := Ground.data }, { on := 24, ground := Ground.guard }], guard := some (24, true) }
abbrev zrsz27 : Oper := { dst := some 43, op := Op.binOp BinOp.eql 3 (Operand.tmp 42) (Operand.const (Value.int IntKind.i64 2)) 3, type := 4, pos := "ref.go:31", after := #[{ on := 26, ground := Ground.data }, { on := 24, ground := Ground.guard }], guard := some (24, true) }
abbrev zrsz28 : Oper := { dst := some 44, op := Op.pick (Operand.tmp 40) (Operand.tmp 43) (Operand.const (Value.bool false)), type := 4, pos := "ref.go:31", after := #[{ on := 24, ground := Ground.data }, { on := 27, ground := Ground.data }, { on := 16, ground := Ground.guard }], guard := some (16, false) }
abbrev zrsz29 : Oper := { dst := some 45, op := Op.pick (Operand.tmp 32) (Operand.const (Value.bool true)) (Operand.tmp 44), type := 4, pos := "ref.go:31", after := #[{ on := 16, ground := Ground.data }, { on := 28, ground := Ground.data }, { on := 6, ground := Ground.guard }], guard := some (6, true) }
abbrev zrsz30 : Oper := { dst := some 46, op := Op.pick (Operand.tmp 22) (Operand.tmp 45) (Operand.const (Value.bool false)), type := 4, pos := "ref.go:31", after := #[{ on := 6, ground := Ground.data }, { on := 29, ground := Ground.data }, { on := 3, ground := Ground.guard }], guard := some (3, false) }
abbrev zrsz31 : Oper := { dst := some 47, op := Op.pick (Operand.tmp 19) (Operand.const (Value.bool true)) (Operand.tmp 46), type := 4, pos := "ref.go:31", after := #[{ on := 3, ground := Ground.data }, { on := 30, ground := Ground.data }], guard := none }
theorem sizeL_last {l : List Pt} {j : Nat} {p : Pt} {f t k : Int} (hp : l[j]? = some p) (h : sizeL (l.take (j + 1)) = some (f, t, k)) : p.kind = k := by
  rw [sizeL_take hp] at h
  cases h0 : sizeL (l.take j) with
  | none => rw [h0] at h; cases h
  | some s =>
    obtain ⟨f0, t0, k0⟩ := s
    rw [h0] at h
    simp only [sizeStep] at h
    by_cases hfit : fitsB p = true ∧ followsB p.kind k0 = true
    · rw [if_pos hfit] at h
      by_cases hlim : 1099511627776 < (if p.kind = 2 then f0 else f0 + p.n) ∨ 1099511627776 < (if p.kind = 3 then t0 else t0 + p.n)
      · rw [if_pos hlim] at h; cases h
      · rw [if_neg hlim] at h
        simp only [Option.some.injEq, Prod.mk.injEq] at h
        exact h.2.2
    · rw [if_neg hfit] at h; cases h
theorem fits_kind {p : Pt} (h : fitsB p = true) : p.kind = 1 ∨ p.kind = 2 ∨ p.kind = 3 := by
  unfold fitsB at h
  simp only [Bool.and_eq_true, Bool.or_eq_true, decide_eq_true_eq] at h
  rcases h.2 with h2 | h2
  · rcases h2.1 with h3 | h3
    · exact .inl h3
    · exact .inr (.inr h3)
  · exact .inr (.inl h2.1)
set_option maxRecDepth 100000 in
set_option maxHeartbeats 4000000 in
theorem rsize_any (a : Option Addr) (l : List Pt) (c : Nat) (w : World) (hp : PtsAt w a l) (hc : l.length ≤ maxLen) (hs : ∀ p ∈ l, p.text.size ≤ 281474976710656) :
    Calls Tryd.prog 30 #[.slice a l.length c] w fun r w' => r = .returned (szVal l) ∧ Below w.heap.size w w' := by
  have HP := hide hp
  have HS := hide hs
  obtain ⟨n, hn⟩ : ∃ n, l.length = n := ⟨_, rfl⟩
  rw [hn] at hc ⊢
  have HN := hide hn
  have nI : (n : Int) ≤ 9223372036854775807 := by unfold maxLen at hc; omega
  clear hp hs hn
  go_enter Tryd.func30, Tryd.ntmps30
  go_wp2_with fail
  go_loopw [5, 6, 11] (fun f t i wr => ∃ k : Nat, k ≤ n ∧ i = .int .i64 (k : Int) ∧ (∃ fv tv lv : Int, f = .int .i64 fv ∧ t = .int .i64 tv ∧ Hid (sizeL (l.take k) = some (fv, tv, lv))) ∧ Hid (Below w.heap.size w wr)) (fun _ _ i _ => ((n : Int) - intOf i).toNat)
  case atStart => exact ⟨0, by omega, by simp, ⟨0, 0, 0, by simp, by simp, hide (by simp [sizeL])⟩, hide (Below.refl _ _)⟩
  case round =>
    obtain ⟨k, hk, rfl, ⟨fv, tv, lv, rfl, rfl, HSZ⟩, HB⟩ := hrel
    by_cases hlt : k < n
    · have kI : (k : Int) < (n : Int) := by omega
      obtain ⟨p, hpk⟩ : ∃ p, l[k]? = some p := ⟨_, List.getElem?_eq_getElem (by have := unhide HN; omega)⟩
      obtain ⟨b, off, rfl, e0, e1, e2⟩ := (unhide HP).at_ (unhide HB) hpk
      have HPK := hide hpk
      have HST := hide (sizeL_take hpk)
      rw [unhide HSZ] at HST
      obtain ⟨b1, b2, b3, b4⟩ := sizeL_bounds _ _ _ _ (unhide HSZ)
      have hps := unhide HS p (List.mem_of_getElem? hpk)
      have hbA : Below wr.heap.size wr (wr.alloc (.cells #[.int .i64 p.kind, .int .i64 p.n, .string p.text] 44)) := (Below.refl _ _).alloc (Nat.le_refl _) _
      have HBA := hide ((unhide HB).trans (hbA.mono (unhide HB).size))
      have HBN := hide hbA
      have HRW := hide (RowAt.new wr 44 [.int .i64 p.kind, .int .i64 p.n, .string p.text])
      have HFA : Hid (∀ W, Calls Tryd.prog 51 #[.agg #[.int .i64 p.kind, .int .i64 p.n, .string p.text]] W fun r w' => r = .returned (.bool (fitsB p)) ∧ Below W.heap.size W w') := hide (fun W => rfits_any p W hps)
      clear hpk hps hbA
      go_wp2_with fail
      obtain ⟨wA, hA⟩ : ∃ wA, wr.alloc (.cells #[.int .i64 p.kind, .int .i64 p.n, .string p.text] 44) = wA := ⟨_, rfl⟩
      rw [hA] at HBA HBN HRW ⊢
      clear hA e0 e1 e2
      obtain ⟨bb, hbb⟩ : ∃ bb, wr.heap.size = bb := ⟨_, rfl⟩
      have HBB := hide hbb
      rw [hbb] at HRW ⊢
      clear hbb
      cases hfb : fitsB p with
      | false =>
        have HFI : Hid (∀ W, Below wA.heap.size wA W → Calls Tryd.prog 51 #[.agg #[.int .i64 p.kind, .int .i64 p.n, .string p.text]] W fun r w' => r = .returned (.bool false) ∧ Below W.heap.size W w') := hide (fun W _ => by have := unhide HFA W; rw [hfb] at this; exact this)
        have HSS : Hid (∀ W, Below wA.heap.size wA W → W.cell? ⟨bb, 0, none⟩ = some (.int .i64 p.kind) ∧ W.cell? ⟨bb, 1, none⟩ = some (.int .i64 p.n) ∧ W.cell? ⟨bb, 2, none⟩ = some (.string p.text)) := hide (fun W hW => ⟨((unhide HRW).below hW (unhide HRW).lt).cell 0, ((unhide HRW).below hW (unhide HRW).lt).cell 1, ((unhide HRW).below hW (unhide HRW).lt).cell 2⟩)
        have HFN := hide hfb
        clear hfb HFA HRW HBN
        refine wp_region_T (S := fun W => W.cell? ⟨bb, 0, none⟩ = some (.int .i64 p.kind) ∧ W.cell? ⟨bb, 1, none⟩ = some (.int .i64 p.n) ∧ W.cell? ⟨bb, 2, none⟩ = some (.string p.text)) (fun i => decide (i < 32)) (by kernel_rfl) (unhide HSS _ (Below.refl _ _).drew) (fun hHeld => ?_)
        refine wpAnyT_take (i := 0) (oi := zrsz0) (v := .agg #[.int .i64 p.kind, .int .i64 p.n, .string p.text]) rfl (by kernel_rfl) (by kernel_rfl) (by kernel_rfl) (by kernel_rfl) (fun _ _ _ h => h) (Or.inl ⟨by rfl, ?_⟩) hHeld ?_
        · intro w hSw
          obtain ⟨s0, s1, s2⟩ := hSw
          first
            | rfl
            | (go_simp; done)
        try simp only [Act.put, List.setIfInBounds_toArray, List.set_cons_zero, List.set_cons_succ]
        refine wpAnyT_one (i := 1) (o := zrsz1) (by kernel_rfl) rfl (fun K hK => ?_)
        go_simp
        refine Calls.mono (unhide HFI _ (Below.refl _ _).drew) ?_
        rintro r w2 ⟨rfl, hb2⟩
        have HK2 := hide ((Below.refl wA.heap.size wA).drew.trans (hb2.mono (Below.refl wA.heap.size wA).drew.size))
        clear hb2
        go_wp2_with fail
        refine hK.out _ _ (fun _ => unhide HSS _ (unhide HK2)) ?_
        clear hK K
        try simp only [Act.put, List.setIfInBounds_toArray, List.set_cons_zero, List.set_cons_succ]
        refine wpAnyT_take (i := 2) (oi := zrsz2) (v := .bool true) rfl (by kernel_rfl) (by kernel_rfl) (by kernel_rfl) (by kernel_rfl) (fun _ _ _ h => h) (Or.inl ⟨by rfl, ?_⟩) (unhide HSS _ (unhide HK2)) ?_
        · intro w hSw
          obtain ⟨s0, s1, s2⟩ := hSw
          first
            | rfl
            | (go_simp; done)
        try simp only [Act.put, List.setIfInBounds_toArray, List.set_cons_zero, List.set_cons_succ]
        refine wpAnyT_take (i := 3) (oi := zrsz3) (v := .bool true) rfl (by kernel_rfl) (by kernel_rfl) (by kernel_rfl) (by kernel_rfl) (fun _ _ _ h => h) (Or.inl ⟨by rfl, ?_⟩) (unhide HSS _ (unhide HK2)) ?_
        · intro w hSw
          obtain ⟨s0, s1, s2⟩ := hSw
          first
            | rfl
            | (go_simp; done)
        try simp only [Act.put, List.setIfInBounds_toArray, List.set_cons_zero, List.set_cons_succ]
        refine wpAnyT_take (i := 4) (oi := zrsz4) (v := undef) rfl (by kernel_rfl) (by kernel_rfl) (by kernel_rfl) (by kernel_rfl) (fun _ _ _ h => h) (Or.inr ⟨by rfl, rfl⟩) (unhide HSS _ (unhide HK2)) ?_
        try simp only [Act.put, List.setIfInBounds_toArray, List.set_cons_zero, List.set_cons_succ]
        refine wpAnyT_take (i := 5) (oi := zrsz5) (v := undef) rfl (by kernel_rfl) (by kernel_rfl) (by kernel_rfl) (by kernel_rfl) (fun _ _ _ h => h) (Or.inr ⟨by rfl, rfl⟩) (unhide HSS _ (unhide HK2)) ?_
        try simp only [Act.put, List.setIfInBounds_toArray, List.set_cons_zero, List.set_cons_succ]
        refine wpAnyT_take (i := 6) (oi := zrsz6) (v := undef) rfl (by kernel_rfl) (by kernel_rfl) (by kernel_rfl) (by kernel_rfl) (fun _ _ _ h => h) (Or.inr ⟨by rfl, rfl⟩) (unhide HSS _ (unhide HK2)) ?_
        try simp only [Act.put, List.setIfInBounds_toArray, List.set_cons_zero, List.set_cons_succ]
        refine wpAnyT_take (i := 7) (oi := zrsz7) (v := undef) rfl (by kernel_rfl) (by kernel_rfl) (by kernel_rfl) (by kernel_rfl) (fun _ _ _ h => h) (Or.inr ⟨by rfl, rfl⟩) (unhide HSS _ (unhide HK2)) ?_
        try simp only [Act.put, List.setIfInBounds_toArray, List.set_cons_zero, List.set_cons_succ]
        refine wpAnyT_take (i := 8) (oi := zrsz8) (v := undef) rfl (by kernel_rfl) (by kernel_rfl) (by kernel_rfl) (by kernel_rfl) (fun _ _ _ h => h) (Or.inr ⟨by rfl, rfl⟩) (unhide HSS _ (unhide HK2)) ?_
        try simp only [Act.put, List.setIfInBounds_toArray, List.set_cons_zero, List.set_cons_succ]
        refine wpAnyT_take (i := 9) (oi := zrsz9) (v := undef) rfl (by kernel_rfl) (by kernel_rfl) (by kernel_rfl) (by kernel_rfl) (fun _ _ _ h => h) (Or.inr ⟨by rfl, rfl⟩) (unhide HSS _ (unhide HK2)) ?_
        try simp only [Act.put, List.setIfInBounds_toArray, List.set_cons_zero, List.set_cons_succ]
        refine wpAnyT_take (i := 10) (oi := zrsz10) (v := undef) rfl (by kernel_rfl) (by kernel_rfl) (by kernel_rfl) (by kernel_rfl) (fun _ _ _ h => h) (Or.inr ⟨by rfl, rfl⟩) (unhide HSS _ (unhide HK2)) ?_
        try simp only [Act.put, List.setIfInBounds_toArray, List.set_cons_zero, List.set_cons_succ]
        refine wpAnyT_take (i := 11) (oi := zrsz11) (v := undef) rfl (by kernel_rfl) (by kernel_rfl) (by kernel_rfl) (by kernel_rfl) (fun _ _ _ h => h) (Or.inr ⟨by rfl, rfl⟩) (unhide HSS _ (unhide HK2)) ?_
        try simp only [Act.put, List.setIfInBounds_toArray, List.set_cons_zero, List.set_cons_succ]
        refine wpAnyT_take (i := 12) (oi := zrsz12) (v := undef) rfl (by kernel_rfl) (by kernel_rfl) (by kernel_rfl) (by kernel_rfl) (fun _ _ _ h => h) (Or.inr ⟨by rfl, rfl⟩) (unhide HSS _ (unhide HK2)) ?_
        try simp only [Act.put, List.setIfInBounds_toArray, List.set_cons_zero, List.set_cons_succ]
        refine wpAnyT_take (i := 13) (oi := zrsz13) (v := undef) rfl (by kernel_rfl) (by kernel_rfl) (by kernel_rfl) (by kernel_rfl) (fun _ _ _ h => h) (Or.inr ⟨by rfl, rfl⟩) (unhide HSS _ (unhide HK2)) ?_
        try simp only [Act.put, List.setIfInBounds_toArray, List.set_cons_zero, List.set_cons_succ]
        refine wpAnyT_take (i := 14) (oi := zrsz14) (v := undef) rfl (by kernel_rfl) (by kernel_rfl) (by kernel_rfl) (by kernel_rfl) (fun _ _ _ h => h) (Or.inr ⟨by rfl, rfl⟩) (unhide HSS _ (unhide HK2)) ?_
        try simp only [Act.put, List.setIfInBounds_toArray, List.set_cons_zero, List.set_cons_succ]
        refine wpAnyT_take (i := 15) (oi := zrsz15) (v := undef) rfl (by kernel_rfl) (by kernel_rfl) (by kernel_rfl) (by kernel_rfl) (fun _ _ _ h => h) (Or.inr ⟨by rfl, rfl⟩) (unhide HSS _ (unhide HK2)) ?_
        try simp only [Act.put, List.setIfInBounds_toArray, List.set_cons_zero, List.set_cons_succ]
        refine wpAnyT_take (i := 16) (oi := zrsz16) (v := undef) rfl (by kernel_rfl) (by kernel_rfl) (by kernel_rfl) (by kernel_rfl) (fun _ _ _ h => h) (Or.inr ⟨by rfl, rfl⟩) (unhide HSS _ (unhide HK2)) ?_
        try simp only [Act.put, List.setIfInBounds_toArray, List.set_cons_zero, List.set_cons_succ]
        refine wpAnyT_take (i := 17) (oi := zrsz17) (v := undef) rfl (by kernel_rfl) (by kernel_rfl) (by kernel_rfl) (by kernel_rfl) (fun _ _ _ h => h) (Or.inr ⟨by rfl, rfl⟩) (unhide HSS _ (unhide HK2)) ?_
        try simp only [Act.put, List.setIfInBounds_toArray, List.set_cons_zero, List.set_cons_succ]
        refine wpAnyT_take (i := 18) (oi := zrsz18) (v := undef) rfl (by kernel_rfl) (by kernel_rfl) (by kernel_rfl) (by kernel_rfl) (fun _ _ _ h => h) (Or.inr ⟨by rfl, rfl⟩) (unhide HSS _ (unhide HK2)) ?_
        try simp only [Act.put, List.setIfInBounds_toArray, List.set_cons_zero, List.set_cons_succ]
        refine wpAnyT_take (i := 19) (oi := zrsz19) (v := undef) rfl (by kernel_rfl) (by kernel_rfl) (by kernel_rfl) (by kernel_rfl) (fun _ _ _ h => h) (Or.inr ⟨by rfl, rfl⟩) (unhide HSS _ (unhide HK2)) ?_
        try simp only [Act.put, List.setIfInBounds_toArray, List.set_cons_zero, List.set_cons_succ]
        refine wpAnyT_take (i := 20) (oi := zrsz20) (v := undef) rfl (by kernel_rfl) (by kernel_rfl) (by kernel_rfl) (by kernel_rfl) (fun _ _ _ h => h) (Or.inr ⟨by rfl, rfl⟩) (unhide HSS _ (unhide HK2)) ?_
        try simp only [Act.put, List.setIfInBounds_toArray, List.set_cons_zero, List.set_cons_succ]
        refine wpAnyT_take (i := 21) (oi := zrsz21) (v := undef) rfl (by kernel_rfl) (by kernel_rfl) (by kernel_rfl) (by kernel_rfl) (fun _ _ _ h => h) (Or.inr ⟨by rfl, rfl⟩) (unhide HSS _ (unhide HK2)) ?_
        try simp only [Act.put, List.setIfInBounds_toArray, List.set_cons_zero, List.set_cons_succ]
        refine wpAnyT_take (i := 22) (oi := zrsz22) (v := undef) rfl (by kernel_rfl) (by kernel_rfl) (by kernel_rfl) (by kernel_rfl) (fun _ _ _ h => h) (Or.inr ⟨by rfl, rfl⟩) (unhide HSS _ (unhide HK2)) ?_
        try simp only [Act.put, List.setIfInBounds_toArray, List.set_cons_zero, List.set_cons_succ]
        refine wpAnyT_take (i := 23) (oi := zrsz23) (v := undef) rfl (by kernel_rfl) (by kernel_rfl) (by kernel_rfl) (by kernel_rfl) (fun _ _ _ h => h) (Or.inr ⟨by rfl, rfl⟩) (unhide HSS _ (unhide HK2)) ?_
        try simp only [Act.put, List.setIfInBounds_toArray, List.set_cons_zero, List.set_cons_succ]
        refine wpAnyT_take (i := 24) (oi := zrsz24) (v := undef) rfl (by kernel_rfl) (by kernel_rfl) (by kernel_rfl) (by kernel_rfl) (fun _ _ _ h => h) (Or.inr ⟨by rfl, rfl⟩) (unhide HSS _ (unhide HK2)) ?_
        try simp only [Act.put, List.setIfInBounds_toArray, List.set_cons_zero, List.set_cons_succ]
        refine wpAnyT_take (i := 25) (oi := zrsz25) (v := undef) rfl (by kernel_rfl) (by kernel_rfl) (by kernel_rfl) (by kernel_rfl) (fun _ _ _ h => h) (Or.inr ⟨by rfl, rfl⟩) (unhide HSS _ (unhide HK2)) ?_
        try simp only [Act.put, List.setIfInBounds_toArray, List.set_cons_zero, List.set_cons_succ]
        refine wpAnyT_take (i := 26) (oi := zrsz26) (v := undef) rfl (by kernel_rfl) (by kernel_rfl) (by kernel_rfl) (by kernel_rfl) (fun _ _ _ h => h) (Or.inr ⟨by rfl, rfl⟩) (unhide HSS _ (unhide HK2)) ?_
        try simp only [Act.put, List.setIfInBounds_toArray, List.set_cons_zero, List.set_cons_succ]
        refine wpAnyT_take (i := 27) (oi := zrsz27) (v := undef) rfl (by kernel_rfl) (by kernel_rfl) (by kernel_rfl) (by kernel_rfl) (fun _ _ _ h => h) (Or.inr ⟨by rfl, rfl⟩) (unhide HSS _ (unhide HK2)) ?_
        try simp only [Act.put, List.setIfInBounds_toArray, List.set_cons_zero, List.set_cons_succ]
        refine wpAnyT_take (i := 28) (oi := zrsz28) (v := undef) rfl (by kernel_rfl) (by kernel_rfl) (by kernel_rfl) (by kernel_rfl) (fun _ _ _ h => h) (Or.inr ⟨by rfl, rfl⟩) (unhide HSS _ (unhide HK2)) ?_
        try simp only [Act.put, List.setIfInBounds_toArray, List.set_cons_zero, List.set_cons_succ]
        refine wpAnyT_take (i := 29) (oi := zrsz29) (v := undef) rfl (by kernel_rfl) (by kernel_rfl) (by kernel_rfl) (by kernel_rfl) (fun _ _ _ h => h) (Or.inr ⟨by rfl, rfl⟩) (unhide HSS _ (unhide HK2)) ?_
        try simp only [Act.put, List.setIfInBounds_toArray, List.set_cons_zero, List.set_cons_succ]
        refine wpAnyT_take (i := 30) (oi := zrsz30) (v := undef) rfl (by kernel_rfl) (by kernel_rfl) (by kernel_rfl) (by kernel_rfl) (fun _ _ _ h => h) (Or.inr ⟨by rfl, rfl⟩) (unhide HSS _ (unhide HK2)) ?_
        try simp only [Act.put, List.setIfInBounds_toArray, List.set_cons_zero, List.set_cons_succ]
        refine wpAnyT_take (i := 31) (oi := zrsz31) (v := .bool true) rfl (by kernel_rfl) (by kernel_rfl) (by kernel_rfl) (by kernel_rfl) (fun _ _ _ h => h) (Or.inl ⟨by rfl, ?_⟩) (unhide HSS _ (unhide HK2)) ?_
        · intro w hSw
          obtain ⟨s0, s1, s2⟩ := hSw
          first
            | rfl
            | (go_simp; done)
        try simp only [Act.put, List.setIfInBounds_toArray, List.set_cons_zero, List.set_cons_succ]
        refine wpAnyT_done (by kernel_rfl) ?_ _
        have HB2 := hide ((unhide HBA).trans ((unhide HK2).mono (unhide HBA).size))
        obtain ⟨r0, r1, r2⟩ := unhide HSS _ (unhide HK2)
        clear HSS HFI HBA HK2 r2
        have HB3 := HB2
        clear HB2
        have HNO : Hid (sizeL (l.take (k + 1)) = none) := hide (by rw [unhide HST]; simp [sizeStep, unhide HFN])
        go_wp2_with fail
        go_ret3
        have hz := sizeL_none (unhide HNO)
        exact ⟨by unfold szVal; rw [hz]; rfl, unhide HB3⟩
      | true =>
        have HFI : Hid (∀ W, Below wA.heap.size wA W → Calls Tryd.prog 51 #[.agg #[.int .i64 p.kind, .int .i64 p.n, .string p.text]] W fun r w' => r = .returned (.bool true) ∧ Below W.heap.size W w') := hide (fun W _ => by have := unhide HFA W; rw [hfb] at this; exact this)
        obtain ⟨n1, n2⟩ := fits_bounds hfb
        have HFB := hide hfb
        clear hfb HFA
        rcases Nat.eq_zero_or_pos k with hk0 | hk0
        · subst hk0
          have HFO : Hid (followsB p.kind lv = true) := hide (by
            have h1 := unhide HSZ
            simp [sizeL] at h1
            obtain ⟨_, _, rfl⟩ := h1
            have h2 := fits_kind (unhide HFB)
            unfold followsB
            simp
            omega)
          have HSS : Hid (∀ W, Below wA.heap.size wA W → W.cell? ⟨bb, 0, none⟩ = some (.int .i64 p.kind) ∧ W.cell? ⟨bb, 1, none⟩ = some (.int .i64 p.n) ∧ W.cell? ⟨bb, 2, none⟩ = some (.string p.text)) := hide (fun W hW => ⟨((unhide HRW).below hW (unhide HRW).lt).cell 0, ((unhide HRW).below hW (unhide HRW).lt).cell 1, ((unhide HRW).below hW (unhide HRW).lt).cell 2⟩)
          clear HRW HBN
          simp only [show ((0 : Nat) : Int) = 0 from rfl]
          refine wp_region_T (S := fun W => W.cell? ⟨bb, 0, none⟩ = some (.int .i64 p.kind) ∧ W.cell? ⟨bb, 1, none⟩ = some (.int .i64 p.n) ∧ W.cell? ⟨bb, 2, none⟩ = some (.string p.text)) (fun i => decide (i < 32)) (by kernel_rfl) (unhide HSS _ (Below.refl _ _).drew) (fun hHeld => ?_)
          refine wpAnyT_take (i := 0) (oi := zrsz0) (v := .agg #[.int .i64 p.kind, .int .i64 p.n, .string p.text]) rfl (by kernel_rfl) (by kernel_rfl) (by kernel_rfl) (by kernel_rfl) (fun _ _ _ h => h) (Or.inl ⟨by rfl, ?_⟩) hHeld ?_
          · intro w hSw
            obtain ⟨s0, s1, s2⟩ := hSw
            first
              | rfl
              | (go_simp; done)
          try simp only [Act.put, List.setIfInBounds_toArray, List.set_cons_zero, List.set_cons_succ]
          refine wpAnyT_one (i := 1) (o := zrsz1) (by kernel_rfl) rfl (fun K hK => ?_)
          go_simp
          refine Calls.mono (unhide HFI _ (Below.refl _ _).drew) ?_
          rintro r w2 ⟨rfl, hb2⟩
          have HK2 := hide ((Below.refl wA.heap.size wA).drew.trans (hb2.mono (Below.refl wA.heap.size wA).drew.size))
          clear hb2
          go_wp2_with fail
          refine hK.out _ _ (fun _ => unhide HSS _ (unhide HK2)) ?_
          clear hK K
          try simp only [Act.put, List.setIfInBounds_toArray, List.set_cons_zero, List.set_cons_succ]
          refine wpAnyT_take (i := 2) (oi := zrsz2) (v := .bool false) rfl (by kernel_rfl) (by kernel_rfl) (by kernel_rfl) (by kernel_rfl) (fun _ _ _ h => h) (Or.inl ⟨by rfl, ?_⟩) (unhide HSS _ (unhide HK2)) ?_
          · intro w hSw
            obtain ⟨s0, s1, s2⟩ := hSw
            first
              | rfl
              | (go_simp; done)
          try simp only [Act.put, List.setIfInBounds_toArray, List.set_cons_zero, List.set_cons_succ]
          refine wpAnyT_take (i := 3) (oi := zrsz3) (v := .bool false) rfl (by kernel_rfl) (by kernel_rfl) (by kernel_rfl) (by kernel_rfl) (fun _ _ _ h => h) (Or.inl ⟨by rfl, ?_⟩) (unhide HSS _ (unhide HK2)) ?_
          · intro w hSw
            obtain ⟨s0, s1, s2⟩ := hSw
            first
              | rfl
              | (go_simp; done)
          try simp only [Act.put, List.setIfInBounds_toArray, List.set_cons_zero, List.set_cons_succ]
          refine wpAnyT_take (i := 4) (oi := zrsz4) (v := .int .i64 0) rfl (by kernel_rfl) (by kernel_rfl) (by kernel_rfl) (by kernel_rfl) (fun _ _ _ h => h) (Or.inl ⟨by rfl, ?_⟩) (unhide HSS _ (unhide HK2)) ?_
          · intro w hSw
            obtain ⟨s0, s1, s2⟩ := hSw
            first
              | rfl
              | (go_simp; done)
          try simp only [Act.put, List.setIfInBounds_toArray, List.set_cons_zero, List.set_cons_succ]
          refine wpAnyT_take (i := 5) (oi := zrsz5) (v := .bool false) rfl (by kernel_rfl) (by kernel_rfl) (by kernel_rfl) (by kernel_rfl) (fun _ _ _ h => h) (Or.inl ⟨by rfl, ?_⟩) (unhide HSS _ (unhide HK2)) ?_
          · intro w hSw
            obtain ⟨s0, s1, s2⟩ := hSw
            first
              | rfl
              | (go_simp; done)
          try simp only [Act.put, List.setIfInBounds_toArray, List.set_cons_zero, List.set_cons_succ]
          refine wpAnyT_take (i := 6) (oi := zrsz6) (v := .bool false) rfl (by kernel_rfl) (by kernel_rfl) (by kernel_rfl) (by kernel_rfl) (fun _ _ _ h => h) (Or.inl ⟨by rfl, ?_⟩) (unhide HSS _ (unhide HK2)) ?_
          · intro w hSw
            obtain ⟨s0, s1, s2⟩ := hSw
            first
              | rfl
              | (go_simp; done)
          try simp only [Act.put, List.setIfInBounds_toArray, List.set_cons_zero, List.set_cons_succ]
          refine wpAnyT_take (i := 7) (oi := zrsz7) (v := undef) rfl (by kernel_rfl) (by kernel_rfl) (by kernel_rfl) (by kernel_rfl) (fun _ _ _ h => h) (Or.inr ⟨by rfl, rfl⟩) (unhide HSS _ (unhide HK2)) ?_
          try simp only [Act.put, List.setIfInBounds_toArray, List.set_cons_zero, List.set_cons_succ]
          refine wpAnyT_take (i := 8) (oi := zrsz8) (v := undef) rfl (by kernel_rfl) (by kernel_rfl) (by kernel_rfl) (by kernel_rfl) (fun _ _ _ h => h) (Or.inr ⟨by rfl, rfl⟩) (unhide HSS _ (unhide HK2)) ?_
          try simp only [Act.put, List.setIfInBounds_toArray, List.set_cons_zero, List.set_cons_succ]
          refine wpAnyT_take (i := 9) (oi := zrsz9) (v := undef) rfl (by kernel_rfl) (by kernel_rfl) (by kernel_rfl) (by kernel_rfl) (fun _ _ _ h => h) (Or.inr ⟨by rfl, rfl⟩) (unhide HSS _ (unhide HK2)) ?_
          try simp only [Act.put, List.setIfInBounds_toArray, List.set_cons_zero, List.set_cons_succ]
          refine wpAnyT_take (i := 10) (oi := zrsz10) (v := undef) rfl (by kernel_rfl) (by kernel_rfl) (by kernel_rfl) (by kernel_rfl) (fun _ _ _ h => h) (Or.inr ⟨by rfl, rfl⟩) (unhide HSS _ (unhide HK2)) ?_
          try simp only [Act.put, List.setIfInBounds_toArray, List.set_cons_zero, List.set_cons_succ]
          refine wpAnyT_take (i := 11) (oi := zrsz11) (v := undef) rfl (by kernel_rfl) (by kernel_rfl) (by kernel_rfl) (by kernel_rfl) (fun _ _ _ h => h) (Or.inr ⟨by rfl, rfl⟩) (unhide HSS _ (unhide HK2)) ?_
          try simp only [Act.put, List.setIfInBounds_toArray, List.set_cons_zero, List.set_cons_succ]
          refine wpAnyT_take (i := 12) (oi := zrsz12) (v := undef) rfl (by kernel_rfl) (by kernel_rfl) (by kernel_rfl) (by kernel_rfl) (fun _ _ _ h => h) (Or.inr ⟨by rfl, rfl⟩) (unhide HSS _ (unhide HK2)) ?_
          try simp only [Act.put, List.setIfInBounds_toArray, List.set_cons_zero, List.set_cons_succ]
          refine wpAnyT_take (i := 13) (oi := zrsz13) (v := undef) rfl (by kernel_rfl) (by kernel_rfl) (by kernel_rfl) (by kernel_rfl) (fun _ _ _ h => h) (Or.inr ⟨by rfl, rfl⟩) (unhide HSS _ (unhide HK2)) ?_
          try simp only [Act.put, List.setIfInBounds_toArray, List.set_cons_zero, List.set_cons_succ]
          refine wpAnyT_take (i := 14) (oi := zrsz14) (v := undef) rfl (by kernel_rfl) (by kernel_rfl) (by kernel_rfl) (by kernel_rfl) (fun _ _ _ h => h) (Or.inr ⟨by rfl, rfl⟩) (unhide HSS _ (unhide HK2)) ?_
          try simp only [Act.put, List.setIfInBounds_toArray, List.set_cons_zero, List.set_cons_succ]
          refine wpAnyT_take (i := 15) (oi := zrsz15) (v := undef) rfl (by kernel_rfl) (by kernel_rfl) (by kernel_rfl) (by kernel_rfl) (fun _ _ _ h => h) (Or.inr ⟨by rfl, rfl⟩) (unhide HSS _ (unhide HK2)) ?_
          try simp only [Act.put, List.setIfInBounds_toArray, List.set_cons_zero, List.set_cons_succ]
          refine wpAnyT_take (i := 16) (oi := zrsz16) (v := undef) rfl (by kernel_rfl) (by kernel_rfl) (by kernel_rfl) (by kernel_rfl) (fun _ _ _ h => h) (Or.inr ⟨by rfl, rfl⟩) (unhide HSS _ (unhide HK2)) ?_
          try simp only [Act.put, List.setIfInBounds_toArray, List.set_cons_zero, List.set_cons_succ]
          refine wpAnyT_take (i := 17) (oi := zrsz17) (v := undef) rfl (by kernel_rfl) (by kernel_rfl) (by kernel_rfl) (by kernel_rfl) (fun _ _ _ h => h) (Or.inr ⟨by rfl, rfl⟩) (unhide HSS _ (unhide HK2)) ?_
          try simp only [Act.put, List.setIfInBounds_toArray, List.set_cons_zero, List.set_cons_succ]
          refine wpAnyT_take (i := 18) (oi := zrsz18) (v := undef) rfl (by kernel_rfl) (by kernel_rfl) (by kernel_rfl) (by kernel_rfl) (fun _ _ _ h => h) (Or.inr ⟨by rfl, rfl⟩) (unhide HSS _ (unhide HK2)) ?_
          try simp only [Act.put, List.setIfInBounds_toArray, List.set_cons_zero, List.set_cons_succ]
          refine wpAnyT_take (i := 19) (oi := zrsz19) (v := undef) rfl (by kernel_rfl) (by kernel_rfl) (by kernel_rfl) (by kernel_rfl) (fun _ _ _ h => h) (Or.inr ⟨by rfl, rfl⟩) (unhide HSS _ (unhide HK2)) ?_
          try simp only [Act.put, List.setIfInBounds_toArray, List.set_cons_zero, List.set_cons_succ]
          refine wpAnyT_take (i := 20) (oi := zrsz20) (v := undef) rfl (by kernel_rfl) (by kernel_rfl) (by kernel_rfl) (by kernel_rfl) (fun _ _ _ h => h) (Or.inr ⟨by rfl, rfl⟩) (unhide HSS _ (unhide HK2)) ?_
          try simp only [Act.put, List.setIfInBounds_toArray, List.set_cons_zero, List.set_cons_succ]
          refine wpAnyT_take (i := 21) (oi := zrsz21) (v := undef) rfl (by kernel_rfl) (by kernel_rfl) (by kernel_rfl) (by kernel_rfl) (fun _ _ _ h => h) (Or.inr ⟨by rfl, rfl⟩) (unhide HSS _ (unhide HK2)) ?_
          try simp only [Act.put, List.setIfInBounds_toArray, List.set_cons_zero, List.set_cons_succ]
          refine wpAnyT_take (i := 22) (oi := zrsz22) (v := undef) rfl (by kernel_rfl) (by kernel_rfl) (by kernel_rfl) (by kernel_rfl) (fun _ _ _ h => h) (Or.inr ⟨by rfl, rfl⟩) (unhide HSS _ (unhide HK2)) ?_
          try simp only [Act.put, List.setIfInBounds_toArray, List.set_cons_zero, List.set_cons_succ]
          refine wpAnyT_take (i := 23) (oi := zrsz23) (v := undef) rfl (by kernel_rfl) (by kernel_rfl) (by kernel_rfl) (by kernel_rfl) (fun _ _ _ h => h) (Or.inr ⟨by rfl, rfl⟩) (unhide HSS _ (unhide HK2)) ?_
          try simp only [Act.put, List.setIfInBounds_toArray, List.set_cons_zero, List.set_cons_succ]
          refine wpAnyT_take (i := 24) (oi := zrsz24) (v := undef) rfl (by kernel_rfl) (by kernel_rfl) (by kernel_rfl) (by kernel_rfl) (fun _ _ _ h => h) (Or.inr ⟨by rfl, rfl⟩) (unhide HSS _ (unhide HK2)) ?_
          try simp only [Act.put, List.setIfInBounds_toArray, List.set_cons_zero, List.set_cons_succ]
          refine wpAnyT_take (i := 25) (oi := zrsz25) (v := undef) rfl (by kernel_rfl) (by kernel_rfl) (by kernel_rfl) (by kernel_rfl) (fun _ _ _ h => h) (Or.inr ⟨by rfl, rfl⟩) (unhide HSS _ (unhide HK2)) ?_
          try simp only [Act.put, List.setIfInBounds_toArray, List.set_cons_zero, List.set_cons_succ]
          refine wpAnyT_take (i := 26) (oi := zrsz26) (v := undef) rfl (by kernel_rfl) (by kernel_rfl) (by kernel_rfl) (by kernel_rfl) (fun _ _ _ h => h) (Or.inr ⟨by rfl, rfl⟩) (unhide HSS _ (unhide HK2)) ?_
          try simp only [Act.put, List.setIfInBounds_toArray, List.set_cons_zero, List.set_cons_succ]
          refine wpAnyT_take (i := 27) (oi := zrsz27) (v := undef) rfl (by kernel_rfl) (by kernel_rfl) (by kernel_rfl) (by kernel_rfl) (fun _ _ _ h => h) (Or.inr ⟨by rfl, rfl⟩) (unhide HSS _ (unhide HK2)) ?_
          try simp only [Act.put, List.setIfInBounds_toArray, List.set_cons_zero, List.set_cons_succ]
          refine wpAnyT_take (i := 28) (oi := zrsz28) (v := undef) rfl (by kernel_rfl) (by kernel_rfl) (by kernel_rfl) (by kernel_rfl) (fun _ _ _ h => h) (Or.inr ⟨by rfl, rfl⟩) (unhide HSS _ (unhide HK2)) ?_
          try simp only [Act.put, List.setIfInBounds_toArray, List.set_cons_zero, List.set_cons_succ]
          refine wpAnyT_take (i := 29) (oi := zrsz29) (v := undef) rfl (by kernel_rfl) (by kernel_rfl) (by kernel_rfl) (by kernel_rfl) (fun _ _ _ h => h) (Or.inr ⟨by rfl, rfl⟩) (unhide HSS _ (unhide HK2)) ?_
          try simp only [Act.put, List.setIfInBounds_toArray, List.set_cons_zero, List.set_cons_succ]
          refine wpAnyT_take (i := 30) (oi := zrsz30) (v := .bool false) rfl (by kernel_rfl) (by kernel_rfl) (by kernel_rfl) (by kernel_rfl) (fun _ _ _ h => h) (Or.inl ⟨by rfl, ?_⟩) (unhide HSS _ (unhide HK2)) ?_
          · intro w hSw
            obtain ⟨s0, s1, s2⟩ := hSw
            first
              | rfl
              | (go_simp; done)
          try simp only [Act.put, List.setIfInBounds_toArray, List.set_cons_zero, List.set_cons_succ]
          refine wpAnyT_take (i := 31) (oi := zrsz31) (v := .bool false) rfl (by kernel_rfl) (by kernel_rfl) (by kernel_rfl) (by kernel_rfl) (fun _ _ _ h => h) (Or.inl ⟨by rfl, ?_⟩) (unhide HSS _ (unhide HK2)) ?_
          · intro w hSw
            obtain ⟨s0, s1, s2⟩ := hSw
            first
              | rfl
              | (go_simp; done)
          try simp only [Act.put, List.setIfInBounds_toArray, List.set_cons_zero, List.set_cons_succ]
          refine wpAnyT_done (by kernel_rfl) ?_ _
          have HB2 := hide ((unhide HBA).trans ((unhide HK2).mono (unhide HBA).size))
          obtain ⟨r0, r1, r2⟩ := unhide HSS _ (unhide HK2)
          clear HSS HFI HBA HK2 r2
          have HB3 := HB2
          clear HB2
          by_cases k2 : p.kind = 2
          · rw [k2] at r0
            have K2 := hide k2
            by_cases hA : 1099511627776 < fv
            · exfalso; omega
            by_cases hB : 1099511627776 < tv + p.n
            · have HNO : Hid (sizeL (l.take (0 + 1)) = none) := hide (by rw [unhide HST]; simp only [sizeStep]; rw [if_pos ⟨unhide HFB, unhide HFO⟩]; simp only [unhide K2, if_true, show ((2 : Int) = 3) = False from by simp, if_false]; rw [if_pos (.inr hB)])
              go_wp2_with fail
              go_ret3
              have hz := sizeL_none (unhide HNO)
              exact ⟨by unfold szVal; rw [hz]; rfl, unhide HB3⟩
            have HNX : Hid (sizeL (l.take (0 + 1)) = some (fv, tv + p.n, p.kind)) := hide (by rw [unhide HST]; simp only [sizeStep]; rw [if_pos ⟨unhide HFB, unhide HFO⟩]; simp only [unhide K2, if_true, show ((2 : Int) = 3) = False from by simp, if_false]; rw [if_neg (by omega)])
            go_wp2_with fail
            exact ⟨⟨1, by omega, by simp, ⟨_, _, _, rfl, rfl, HNX⟩, HB3⟩, by simp [intOf]; omega⟩
          have k2b : (p.kind == 2) = false := by simp [k2]
          by_cases k3 : p.kind = 3
          · rw [k3] at r0
            have K3 := hide k3
            by_cases hA : 1099511627776 < fv + p.n
            · have HNO : Hid (sizeL (l.take (0 + 1)) = none) := hide (by rw [unhide HST]; simp only [sizeStep]; rw [if_pos ⟨unhide HFB, unhide HFO⟩]; simp only [unhide K3, if_true, show ((3 : Int) = 2) = False from by simp, if_false]; rw [if_pos (.inl hA)])
              go_wp2_with fail
              go_ret3
              have hz := sizeL_none (unhide HNO)
              exact ⟨by unfold szVal; rw [hz]; rfl, unhide HB3⟩
            by_cases hB : 1099511627776 < tv
            · exfalso; omega
            have HNX : Hid (sizeL (l.take (0 + 1)) = some (fv + p.n, tv, p.kind)) := hide (by rw [unhide HST]; simp only [sizeStep]; rw [if_pos ⟨unhide HFB, unhide HFO⟩]; simp only [unhide K3, if_true, show ((3 : Int) = 2) = False from by simp, if_false]; rw [if_neg (by omega)])
            go_wp2_with fail
            exact ⟨⟨1, by omega, by simp, ⟨_, _, _, rfl, rfl, HNX⟩, HB3⟩, by simp [intOf]; omega⟩
          have k3b : (p.kind == 3) = false := by simp [k3]
          by_cases hA : 1099511627776 < fv + p.n
          · have HNO : Hid (sizeL (l.take (0 + 1)) = none) := hide (by rw [unhide HST]; simp only [sizeStep]; rw [if_pos ⟨unhide HFB, unhide HFO⟩]; simp only [k2, k3, if_false]; rw [if_pos (.inl hA)])
            go_wp2_with fail
            go_ret3
            have hz := sizeL_none (unhide HNO)
            exact ⟨by unfold szVal; rw [hz]; rfl, unhide HB3⟩
          by_cases hB : 1099511627776 < tv + p.n
          · have HNO : Hid (sizeL (l.take (0 + 1)) = none) := hide (by rw [unhide HST]; simp only [sizeStep]; rw [if_pos ⟨unhide HFB, unhide HFO⟩]; simp only [k2, k3, if_false]; rw [if_pos (.inr hB)])
            go_wp2_with fail
            go_ret3
            have hz := sizeL_none (unhide HNO)
            exact ⟨by unfold szVal; rw [hz]; rfl, unhide HB3⟩
          have HNX : Hid (sizeL (l.take (0 + 1)) = some (fv + p.n, tv + p.n, p.kind)) := hide (by rw [unhide HST]; simp only [sizeStep]; rw [if_pos ⟨unhide HFB, unhide HFO⟩]; simp only [k2, k3, if_false]; rw [if_neg (by omega)])
          go_wp2_with fail
          exact ⟨⟨1, by omega, by simp, ⟨_, _, _, rfl, rfl, HNX⟩, HB3⟩, by simp [intOf]; omega⟩
        · obtain ⟨j, rfl⟩ : ∃ j, k = j + 1 := ⟨k - 1, by omega⟩
          obtain ⟨q, hq⟩ : ∃ q, l[j]? = some q := ⟨_, List.getElem?_eq_getElem (by have := unhide HN; omega)⟩
          have hlv := sizeL_last hq (unhide HSZ)
          obtain ⟨b', off', hab, f0, f1, f2⟩ := (unhide HP).at_ (unhide HB) hq
          cases hab
          rw [hlv] at f0
          have hbl : b < wr.heap.size := by
            rcases (unhide HP).call (unhide HB) with h0 | ⟨b2, off2, he, hl2, _⟩
            · rw [h0] at hq; cases hq
            · cases he; exact hl2
          have HSS : Hid (∀ W, Below wA.heap.size wA W → W.cell? ⟨bb, 0, none⟩ = some (.int .i64 p.kind) ∧ W.cell? ⟨bb, 1, none⟩ = some (.int .i64 p.n) ∧ W.cell? ⟨bb, 2, none⟩ = some (.string p.text) ∧ W.cell? ⟨b, off + j * 3, none⟩ = some (.int .i64 lv)) := hide (fun W hW => ⟨((unhide HRW).below hW (unhide HRW).lt).cell 0, ((unhide HRW).below hW (unhide HRW).lt).cell 1, ((unhide HRW).below hW (unhide HRW).lt).cell 2, by rw [hW.cell (p := ⟨b, _, none⟩) (Nat.lt_of_lt_of_le hbl (unhide HBN).size), (unhide HBN).cell (p := ⟨b, _, none⟩) hbl]; exact f0⟩)
          clear HRW HBN hbl f0 f1 f2 hlv hq HPK
          have jI : (0 : Int) ≤ (j : Int) := by omega
          have jn : (j : Int) + 1 < (n : Int) := by omega
          have jn0 : (j : Int) < (n : Int) := by omega
          have j0 : (0 : Int) < (j : Int) + 1 := by omega
          have jw : IntKind.i64.wrap (j : Int) = (j : Int) := by rw [IntKind.wrap_i64]; omega
          simp only [show ((j + 1 : Nat) : Int) = (j : Int) + 1 from by push_cast; rfl] at kI ⊢
          by_cases hsk : lv = p.kind
          · have hskb : (lv == p.kind) = true := by simp [hsk]
            have HNF : Hid (followsB p.kind lv = false) := hide (by unfold followsB; simp [hsk])
            clear hsk
            refine wp_region_T (S := fun W => W.cell? ⟨bb, 0, none⟩ = some (.int .i64 p.kind) ∧ W.cell? ⟨bb, 1, none⟩ = some (.int .i64 p.n) ∧ W.cell? ⟨bb, 2, none⟩ = some (.string p.text) ∧ W.cell? ⟨b, off + j * 3, none⟩ = some (.int .i64 lv)) (fun i => decide (i < 32)) (by kernel_rfl) (unhide HSS _ (Below.refl _ _).drew) (fun hHeld => ?_)
            refine wpAnyT_take (i := 0) (oi := zrsz0) (v := .agg #[.int .i64 p.kind, .int .i64 p.n, .string p.text]) rfl (by kernel_rfl) (by kernel_rfl) (by kernel_rfl) (by kernel_rfl) (fun _ _ _ h => h) (Or.inl ⟨by rfl, ?_⟩) hHeld ?_
            · intro w hSw
              obtain ⟨s0, s1, s2, s3⟩ := hSw
              first
                | rfl
                | (go_simp; done)
            try simp only [Act.put, List.setIfInBounds_toArray, List.set_cons_zero, List.set_cons_succ]
            refine wpAnyT_one (i := 1) (o := zrsz1) (by kernel_rfl) rfl (fun K hK => ?_)
            go_simp
            refine Calls.mono (unhide HFI _ (Below.refl _ _).drew) ?_
            rintro r w2 ⟨rfl, hb2⟩
            have HK2 := hide ((Below.refl wA.heap.size wA).drew.trans (hb2.mono (Below.refl wA.heap.size wA).drew.size))
            clear hb2
            go_wp2_with fail
            refine hK.out _ _ (fun _ => unhide HSS _ (unhide HK2)) ?_
            clear hK K
            try simp only [Act.put, List.setIfInBounds_toArray, List.set_cons_zero, List.set_cons_succ]
            refine wpAnyT_take (i := 2) (oi := zrsz2) (v := .bool false) rfl (by kernel_rfl) (by kernel_rfl) (by kernel_rfl) (by kernel_rfl) (fun _ _ _ h => h) (Or.inl ⟨by rfl, ?_⟩) (unhide HSS _ (unhide HK2)) ?_
            · intro w hSw
              obtain ⟨s0, s1, s2, s3⟩ := hSw
              first
                | rfl
                | (go_simp; done)
            try simp only [Act.put, List.setIfInBounds_toArray, List.set_cons_zero, List.set_cons_succ]
            refine wpAnyT_take (i := 3) (oi := zrsz3) (v := .bool false) rfl (by kernel_rfl) (by kernel_rfl) (by kernel_rfl) (by kernel_rfl) (fun _ _ _ h => h) (Or.inl ⟨by rfl, ?_⟩) (unhide HSS _ (unhide HK2)) ?_
            · intro w hSw
              obtain ⟨s0, s1, s2, s3⟩ := hSw
              first
                | rfl
                | (go_simp; done)
            try simp only [Act.put, List.setIfInBounds_toArray, List.set_cons_zero, List.set_cons_succ]
            refine wpAnyT_take (i := 4) (oi := zrsz4) (v := .int .i64 ((j : Int) + 1)) rfl (by kernel_rfl) (by kernel_rfl) (by kernel_rfl) (by kernel_rfl) (fun _ _ _ h => h) (Or.inl ⟨by rfl, ?_⟩) (unhide HSS _ (unhide HK2)) ?_
            · intro w hSw
              obtain ⟨s0, s1, s2, s3⟩ := hSw
              first
                | rfl
                | (go_simp; done)
            try simp only [Act.put, List.setIfInBounds_toArray, List.set_cons_zero, List.set_cons_succ]
            refine wpAnyT_take (i := 5) (oi := zrsz5) (v := .bool true) rfl (by kernel_rfl) (by kernel_rfl) (by kernel_rfl) (by kernel_rfl) (fun _ _ _ h => h) (Or.inl ⟨by rfl, ?_⟩) (unhide HSS _ (unhide HK2)) ?_
            · intro w hSw
              obtain ⟨s0, s1, s2, s3⟩ := hSw
              first
                | rfl
                | (go_simp; done)
            try simp only [Act.put, List.setIfInBounds_toArray, List.set_cons_zero, List.set_cons_succ]
            refine wpAnyT_take (i := 6) (oi := zrsz6) (v := .bool true) rfl (by kernel_rfl) (by kernel_rfl) (by kernel_rfl) (by kernel_rfl) (fun _ _ _ h => h) (Or.inl ⟨by rfl, ?_⟩) (unhide HSS _ (unhide HK2)) ?_
            · intro w hSw
              obtain ⟨s0, s1, s2, s3⟩ := hSw
              first
                | rfl
                | (go_simp; done)
            try simp only [Act.put, List.setIfInBounds_toArray, List.set_cons_zero, List.set_cons_succ]
            refine wpAnyT_take (i := 7) (oi := zrsz7) (v := .slice (some ⟨b, off, none⟩) n c) rfl (by kernel_rfl) (by kernel_rfl) (by kernel_rfl) (by kernel_rfl) (fun _ _ _ h => h) (Or.inl ⟨by rfl, ?_⟩) (unhide HSS _ (unhide HK2)) ?_
            · intro w hSw
              obtain ⟨s0, s1, s2, s3⟩ := hSw
              first
                | rfl
                | (go_simp; done)
            try simp only [Act.put, List.setIfInBounds_toArray, List.set_cons_zero, List.set_cons_succ]
            refine wpAnyT_take (i := 8) (oi := zrsz8) (v := .int .i64 ((j : Int) + 1)) rfl (by kernel_rfl) (by kernel_rfl) (by kernel_rfl) (by kernel_rfl) (fun _ _ _ h => h) (Or.inl ⟨by rfl, ?_⟩) (unhide HSS _ (unhide HK2)) ?_
            · intro w hSw
              obtain ⟨s0, s1, s2, s3⟩ := hSw
              first
                | rfl
                | (go_simp; done)
            try simp only [Act.put, List.setIfInBounds_toArray, List.set_cons_zero, List.set_cons_succ]
            refine wpAnyT_take (i := 9) (oi := zrsz9) (v := .int .i64 (j : Int)) rfl (by kernel_rfl) (by kernel_rfl) (by kernel_rfl) (by kernel_rfl) (fun _ _ _ h => h) (Or.inl ⟨by rfl, ?_⟩) (unhide HSS _ (unhide HK2)) ?_
            · intro w hSw
              obtain ⟨s0, s1, s2, s3⟩ := hSw
              first
                | rfl
                | (go_simp; done)
            try simp only [Act.put, List.setIfInBounds_toArray, List.set_cons_zero, List.set_cons_succ]
            refine wpAnyT_take (i := 10) (oi := zrsz10) (v := .pointer (some ⟨b, off + j * 3, none⟩)) rfl (by kernel_rfl) (by kernel_rfl) (by kernel_rfl) (by kernel_rfl) (fun _ _ _ h => h) (Or.inl ⟨by rfl, ?_⟩) (unhide HSS _ (unhide HK2)) ?_
            · intro w hSw
              obtain ⟨s0, s1, s2, s3⟩ := hSw
              first
                | rfl
                | (go_simp; done)
            try simp only [Act.put, List.setIfInBounds_toArray, List.set_cons_zero, List.set_cons_succ]
            refine wpAnyT_take (i := 11) (oi := zrsz11) (v := .pointer (some ⟨b, off + j * 3, none⟩)) rfl (by kernel_rfl) (by kernel_rfl) (by kernel_rfl) (by kernel_rfl) (fun _ _ _ h => h) (Or.inl ⟨by rfl, ?_⟩) (unhide HSS _ (unhide HK2)) ?_
            · intro w hSw
              obtain ⟨s0, s1, s2, s3⟩ := hSw
              first
                | rfl
                | (go_simp; done)
            try simp only [Act.put, List.setIfInBounds_toArray, List.set_cons_zero, List.set_cons_succ]
            refine wpAnyT_take (i := 12) (oi := zrsz12) (v := .int .i64 lv) rfl (by kernel_rfl) (by kernel_rfl) (by kernel_rfl) (by kernel_rfl) (fun _ _ _ h => h) (Or.inl ⟨by rfl, ?_⟩) (unhide HSS _ (unhide HK2)) ?_
            · intro w hSw
              obtain ⟨s0, s1, s2, s3⟩ := hSw
              first
                | rfl
                | (go_simp; done)
            try simp only [Act.put, List.setIfInBounds_toArray, List.set_cons_zero, List.set_cons_succ]
            refine wpAnyT_take (i := 13) (oi := zrsz13) (v := .pointer (some ⟨bb, 0, none⟩)) rfl (by kernel_rfl) (by kernel_rfl) (by kernel_rfl) (by kernel_rfl) (fun _ _ _ h => h) (Or.inl ⟨by rfl, ?_⟩) (unhide HSS _ (unhide HK2)) ?_
            · intro w hSw
              obtain ⟨s0, s1, s2, s3⟩ := hSw
              first
                | rfl
                | (go_simp; done)
            try simp only [Act.put, List.setIfInBounds_toArray, List.set_cons_zero, List.set_cons_succ]
            refine wpAnyT_take (i := 14) (oi := zrsz14) (v := .int .i64 p.kind) rfl (by kernel_rfl) (by kernel_rfl) (by kernel_rfl) (by kernel_rfl) (fun _ _ _ h => h) (Or.inl ⟨by rfl, ?_⟩) (unhide HSS _ (unhide HK2)) ?_
            · intro w hSw
              obtain ⟨s0, s1, s2, s3⟩ := hSw
              first
                | rfl
                | (go_simp; done)
            try simp only [Act.put, List.setIfInBounds_toArray, List.set_cons_zero, List.set_cons_succ]
            refine wpAnyT_take (i := 15) (oi := zrsz15) (v := .bool true) rfl (by kernel_rfl) (by kernel_rfl) (by kernel_rfl) (by kernel_rfl) (fun _ _ _ h => h) (Or.inl ⟨by rfl, ?_⟩) (unhide HSS _ (unhide HK2)) ?_
            · intro w hSw
              obtain ⟨s0, s1, s2, s3⟩ := hSw
              first
                | rfl
                | (go_simp; done)
            try simp only [Act.put, List.setIfInBounds_toArray, List.set_cons_zero, List.set_cons_succ]
            refine wpAnyT_take (i := 16) (oi := zrsz16) (v := .bool true) rfl (by kernel_rfl) (by kernel_rfl) (by kernel_rfl) (by kernel_rfl) (fun _ _ _ h => h) (Or.inl ⟨by rfl, ?_⟩) (unhide HSS _ (unhide HK2)) ?_
            · intro w hSw
              obtain ⟨s0, s1, s2, s3⟩ := hSw
              first
                | rfl
                | (go_simp; done)
            try simp only [Act.put, List.setIfInBounds_toArray, List.set_cons_zero, List.set_cons_succ]
            refine wpAnyT_take (i := 17) (oi := zrsz17) (v := undef) rfl (by kernel_rfl) (by kernel_rfl) (by kernel_rfl) (by kernel_rfl) (fun _ _ _ h => h) (Or.inr ⟨by rfl, rfl⟩) (unhide HSS _ (unhide HK2)) ?_
            try simp only [Act.put, List.setIfInBounds_toArray, List.set_cons_zero, List.set_cons_succ]
            refine wpAnyT_take (i := 18) (oi := zrsz18) (v := undef) rfl (by kernel_rfl) (by kernel_rfl) (by kernel_rfl) (by kernel_rfl) (fun _ _ _ h => h) (Or.inr ⟨by rfl, rfl⟩) (unhide HSS _ (unhide HK2)) ?_
            try simp only [Act.put, List.setIfInBounds_toArray, List.set_cons_zero, List.set_cons_succ]
            refine wpAnyT_take (i := 19) (oi := zrsz19) (v := undef) rfl (by kernel_rfl) (by kernel_rfl) (by kernel_rfl) (by kernel_rfl) (fun _ _ _ h => h) (Or.inr ⟨by rfl, rfl⟩) (unhide HSS _ (unhide HK2)) ?_
            try simp only [Act.put, List.setIfInBounds_toArray, List.set_cons_zero, List.set_cons_succ]
            refine wpAnyT_take (i := 20) (oi := zrsz20) (v := undef) rfl (by kernel_rfl) (by kernel_rfl) (by kernel_rfl) (by kernel_rfl) (fun _ _ _ h => h) (Or.inr ⟨by rfl, rfl⟩) (unhide HSS _ (unhide HK2)) ?_
            try simp only [Act.put, List.setIfInBounds_toArray, List.set_cons_zero, List.set_cons_succ]
            refine wpAnyT_take (i := 21) (oi := zrsz21) (v := undef) rfl (by kernel_rfl) (by kernel_rfl) (by kernel_rfl) (by kernel_rfl) (fun _ _ _ h => h) (Or.inr ⟨by rfl, rfl⟩) (unhide HSS _ (unhide HK2)) ?_
            try simp only [Act.put, List.setIfInBounds_toArray, List.set_cons_zero, List.set_cons_succ]
            refine wpAnyT_take (i := 22) (oi := zrsz22) (v := undef) rfl (by kernel_rfl) (by kernel_rfl) (by kernel_rfl) (by kernel_rfl) (fun _ _ _ h => h) (Or.inr ⟨by rfl, rfl⟩) (unhide HSS _ (unhide HK2)) ?_
            try simp only [Act.put, List.setIfInBounds_toArray, List.set_cons_zero, List.set_cons_succ]
            refine wpAnyT_take (i := 23) (oi := zrsz23) (v := undef) rfl (by kernel_rfl) (by kernel_rfl) (by kernel_rfl) (by kernel_rfl) (fun _ _ _ h => h) (Or.inr ⟨by rfl, rfl⟩) (unhide HSS _ (unhide HK2)) ?_
            try simp only [Act.put, List.setIfInBounds_toArray, List.set_cons_zero, List.set_cons_succ]
            refine wpAnyT_take (i := 24) (oi := zrsz24) (v := undef) rfl (by kernel_rfl) (by kernel_rfl) (by kernel_rfl) (by kernel_rfl) (fun _ _ _ h => h) (Or.inr ⟨by rfl, rfl⟩) (unhide HSS _ (unhide HK2)) ?_
            try simp only [Act.put, List.setIfInBounds_toArray, List.set_cons_zero, List.set_cons_succ]
            refine wpAnyT_take (i := 25) (oi := zrsz25) (v := undef) rfl (by kernel_rfl) (by kernel_rfl) (by kernel_rfl) (by kernel_rfl) (fun _ _ _ h => h) (Or.inr ⟨by rfl, rfl⟩) (unhide HSS _ (unhide HK2)) ?_
            try simp only [Act.put, List.setIfInBounds_toArray, List.set_cons_zero, List.set_cons_succ]
            refine wpAnyT_take (i := 26) (oi := zrsz26) (v := undef) rfl (by kernel_rfl) (by kernel_rfl) (by kernel_rfl) (by kernel_rfl) (fun _ _ _ h => h) (Or.inr ⟨by rfl, rfl⟩) (unhide HSS _ (unhide HK2)) ?_
            try simp only [Act.put, List.setIfInBounds_toArray, List.set_cons_zero, List.set_cons_succ]
            refine wpAnyT_take (i := 27) (oi := zrsz27) (v := undef) rfl (by kernel_rfl) (by kernel_rfl) (by kernel_rfl) (by kernel_rfl) (fun _ _ _ h => h) (Or.inr ⟨by rfl, rfl⟩) (unhide HSS _ (unhide HK2)) ?_
            try simp only [Act.put, List.setIfInBounds_toArray, List.set_cons_zero, List.set_cons_succ]
            refine wpAnyT_take (i := 28) (oi := zrsz28) (v := undef) rfl (by kernel_rfl) (by kernel_rfl) (by kernel_rfl) (by kernel_rfl) (fun _ _ _ h => h) (Or.inr ⟨by rfl, rfl⟩) (unhide HSS _ (unhide HK2)) ?_
            try simp only [Act.put, List.setIfInBounds_toArray, List.set_cons_zero, List.set_cons_succ]
            refine wpAnyT_take (i := 29) (oi := zrsz29) (v := .bool true) rfl (by kernel_rfl) (by kernel_rfl) (by kernel_rfl) (by kernel_rfl) (fun _ _ _ h => h) (Or.inl ⟨by rfl, ?_⟩) (unhide HSS _ (unhide HK2)) ?_
            · intro w hSw
              obtain ⟨s0, s1, s2, s3⟩ := hSw
              first
                | rfl
                | (go_simp; done)
            try simp only [Act.put, List.setIfInBounds_toArray, List.set_cons_zero, List.set_cons_succ]
            refine wpAnyT_take (i := 30) (oi := zrsz30) (v := .bool true) rfl (by kernel_rfl) (by kernel_rfl) (by kernel_rfl) (by kernel_rfl) (fun _ _ _ h => h) (Or.inl ⟨by rfl, ?_⟩) (unhide HSS _ (unhide HK2)) ?_
            · intro w hSw
              obtain ⟨s0, s1, s2, s3⟩ := hSw
              first
                | rfl
                | (go_simp; done)
            try simp only [Act.put, List.setIfInBounds_toArray, List.set_cons_zero, List.set_cons_succ]
            refine wpAnyT_take (i := 31) (oi := zrsz31) (v := .bool true) rfl (by kernel_rfl) (by kernel_rfl) (by kernel_rfl) (by kernel_rfl) (fun _ _ _ h => h) (Or.inl ⟨by rfl, ?_⟩) (unhide HSS _ (unhide HK2)) ?_
            · intro w hSw
              obtain ⟨s0, s1, s2, s3⟩ := hSw
              first
                | rfl
                | (go_simp; done)
            try simp only [Act.put, List.setIfInBounds_toArray, List.set_cons_zero, List.set_cons_succ]
            refine wpAnyT_done (by kernel_rfl) ?_ _
            have HB2 := hide ((unhide HBA).trans ((unhide HK2).mono (unhide HBA).size))
            obtain ⟨r0, r1, r2, r3⟩ := unhide HSS _ (unhide HK2)
            clear HSS HFI HBA HK2 r3 r2
            have HB3 := HB2
            clear HB2
            have HNO : Hid (sizeL (l.take ((j + 1) + 1)) = none) := hide (by rw [unhide HST]; simp [sizeStep, unhide HNF])
            go_wp2_with fail
            go_ret3
            have hz := sizeL_none (unhide HNO)
            exact ⟨by unfold szVal; rw [hz]; rfl, unhide HB3⟩
          have hskb : (lv == p.kind) = false := by simp [hsk]
          by_cases hl3 : lv = 3
          · have hl3b : (lv == 3) = true := by simp [hl3]
            by_cases hk2 : p.kind = 2
            · have hk2b : (p.kind == 2) = true := by simp [hk2]
              have HNF : Hid (followsB p.kind lv = false) := hide (by unfold followsB; simp [hk2, hl3])
              clear hsk hk2 hl3
              refine wp_region_T (S := fun W => W.cell? ⟨bb, 0, none⟩ = some (.int .i64 p.kind) ∧ W.cell? ⟨bb, 1, none⟩ = some (.int .i64 p.n) ∧ W.cell? ⟨bb, 2, none⟩ = some (.string p.text) ∧ W.cell? ⟨b, off + j * 3, none⟩ = some (.int .i64 lv)) (fun i => decide (i < 32)) (by kernel_rfl) (unhide HSS _ (Below.refl _ _).drew) (fun hHeld => ?_)
              refine wpAnyT_take (i := 0) (oi := zrsz0) (v := .agg #[.int .i64 p.kind, .int .i64 p.n, .string p.text]) rfl (by kernel_rfl) (by kernel_rfl) (by kernel_rfl) (by kernel_rfl) (fun _ _ _ h => h) (Or.inl ⟨by rfl, ?_⟩) hHeld ?_
              · intro w hSw
                obtain ⟨s0, s1, s2, s3⟩ := hSw
                first
                  | rfl
                  | (go_simp; done)
              try simp only [Act.put, List.setIfInBounds_toArray, List.set_cons_zero, List.set_cons_succ]
              refine wpAnyT_one (i := 1) (o := zrsz1) (by kernel_rfl) rfl (fun K hK => ?_)
              go_simp
              refine Calls.mono (unhide HFI _ (Below.refl _ _).drew) ?_
              rintro r w2 ⟨rfl, hb2⟩
              have HK2 := hide ((Below.refl wA.heap.size wA).drew.trans (hb2.mono (Below.refl wA.heap.size wA).drew.size))
              clear hb2
              go_wp2_with fail
              refine hK.out _ _ (fun _ => unhide HSS _ (unhide HK2)) ?_
              clear hK K
              try simp only [Act.put, List.setIfInBounds_toArray, List.set_cons_zero, List.set_cons_succ]
              refine wpAnyT_take (i := 2) (oi := zrsz2) (v := .bool false) rfl (by kernel_rfl) (by kernel_rfl) (by kernel_rfl) (by kernel_rfl) (fun _ _ _ h => h) (Or.inl ⟨by rfl, ?_⟩) (unhide HSS _ (unhide HK2)) ?_
              · intro w hSw
                obtain ⟨s0, s1, s2, s3⟩ := hSw
                first
                  | rfl
                  | (go_simp; done)
              try simp only [Act.put, List.setIfInBounds_toArray, List.set_cons_zero, List.set_cons_succ]
              refine wpAnyT_take (i := 3) (oi := zrsz3) (v := .bool false) rfl (by kernel_rfl) (by kernel_rfl) (by kernel_rfl) (by kernel_rfl) (fun _ _ _ h => h) (Or.inl ⟨by rfl, ?_⟩) (unhide HSS _ (unhide HK2)) ?_
              · intro w hSw
                obtain ⟨s0, s1, s2, s3⟩ := hSw
                first
                  | rfl
                  | (go_simp; done)
              try simp only [Act.put, List.setIfInBounds_toArray, List.set_cons_zero, List.set_cons_succ]
              refine wpAnyT_take (i := 4) (oi := zrsz4) (v := .int .i64 ((j : Int) + 1)) rfl (by kernel_rfl) (by kernel_rfl) (by kernel_rfl) (by kernel_rfl) (fun _ _ _ h => h) (Or.inl ⟨by rfl, ?_⟩) (unhide HSS _ (unhide HK2)) ?_
              · intro w hSw
                obtain ⟨s0, s1, s2, s3⟩ := hSw
                first
                  | rfl
                  | (go_simp; done)
              try simp only [Act.put, List.setIfInBounds_toArray, List.set_cons_zero, List.set_cons_succ]
              refine wpAnyT_take (i := 5) (oi := zrsz5) (v := .bool true) rfl (by kernel_rfl) (by kernel_rfl) (by kernel_rfl) (by kernel_rfl) (fun _ _ _ h => h) (Or.inl ⟨by rfl, ?_⟩) (unhide HSS _ (unhide HK2)) ?_
              · intro w hSw
                obtain ⟨s0, s1, s2, s3⟩ := hSw
                first
                  | rfl
                  | (go_simp; done)
              try simp only [Act.put, List.setIfInBounds_toArray, List.set_cons_zero, List.set_cons_succ]
              refine wpAnyT_take (i := 6) (oi := zrsz6) (v := .bool true) rfl (by kernel_rfl) (by kernel_rfl) (by kernel_rfl) (by kernel_rfl) (fun _ _ _ h => h) (Or.inl ⟨by rfl, ?_⟩) (unhide HSS _ (unhide HK2)) ?_
              · intro w hSw
                obtain ⟨s0, s1, s2, s3⟩ := hSw
                first
                  | rfl
                  | (go_simp; done)
              try simp only [Act.put, List.setIfInBounds_toArray, List.set_cons_zero, List.set_cons_succ]
              refine wpAnyT_take (i := 7) (oi := zrsz7) (v := .slice (some ⟨b, off, none⟩) n c) rfl (by kernel_rfl) (by kernel_rfl) (by kernel_rfl) (by kernel_rfl) (fun _ _ _ h => h) (Or.inl ⟨by rfl, ?_⟩) (unhide HSS _ (unhide HK2)) ?_
              · intro w hSw
                obtain ⟨s0, s1, s2, s3⟩ := hSw
                first
                  | rfl
                  | (go_simp; done)
              try simp only [Act.put, List.setIfInBounds_toArray, List.set_cons_zero, List.set_cons_succ]
              refine wpAnyT_take (i := 8) (oi := zrsz8) (v := .int .i64 ((j : Int) + 1)) rfl (by kernel_rfl) (by kernel_rfl) (by kernel_rfl) (by kernel_rfl) (fun _ _ _ h => h) (Or.inl ⟨by rfl, ?_⟩) (unhide HSS _ (unhide HK2)) ?_
              · intro w hSw
                obtain ⟨s0, s1, s2, s3⟩ := hSw
                first
                  | rfl
                  | (go_simp; done)
              try simp only [Act.put, List.setIfInBounds_toArray, List.set_cons_zero, List.set_cons_succ]
              refine wpAnyT_take (i := 9) (oi := zrsz9) (v := .int .i64 (j : Int)) rfl (by kernel_rfl) (by kernel_rfl) (by kernel_rfl) (by kernel_rfl) (fun _ _ _ h => h) (Or.inl ⟨by rfl, ?_⟩) (unhide HSS _ (unhide HK2)) ?_
              · intro w hSw
                obtain ⟨s0, s1, s2, s3⟩ := hSw
                first
                  | rfl
                  | (go_simp; done)
              try simp only [Act.put, List.setIfInBounds_toArray, List.set_cons_zero, List.set_cons_succ]
              refine wpAnyT_take (i := 10) (oi := zrsz10) (v := .pointer (some ⟨b, off + j * 3, none⟩)) rfl (by kernel_rfl) (by kernel_rfl) (by kernel_rfl) (by kernel_rfl) (fun _ _ _ h => h) (Or.inl ⟨by rfl, ?_⟩) (unhide HSS _ (unhide HK2)) ?_
              · intro w hSw
                obtain ⟨s0, s1, s2, s3⟩ := hSw
                first
                  | rfl
                  | (go_simp; done)
              try simp only [Act.put, List.setIfInBounds_toArray, List.set_cons_zero, List.set_cons_succ]
              refine wpAnyT_take (i := 11) (oi := zrsz11) (v := .pointer (some ⟨b, off + j * 3, none⟩)) rfl (by kernel_rfl) (by kernel_rfl) (by kernel_rfl) (by kernel_rfl) (fun _ _ _ h => h) (Or.inl ⟨by rfl, ?_⟩) (unhide HSS _ (unhide HK2)) ?_
              · intro w hSw
                obtain ⟨s0, s1, s2, s3⟩ := hSw
                first
                  | rfl
                  | (go_simp; done)
              try simp only [Act.put, List.setIfInBounds_toArray, List.set_cons_zero, List.set_cons_succ]
              refine wpAnyT_take (i := 12) (oi := zrsz12) (v := .int .i64 lv) rfl (by kernel_rfl) (by kernel_rfl) (by kernel_rfl) (by kernel_rfl) (fun _ _ _ h => h) (Or.inl ⟨by rfl, ?_⟩) (unhide HSS _ (unhide HK2)) ?_
              · intro w hSw
                obtain ⟨s0, s1, s2, s3⟩ := hSw
                first
                  | rfl
                  | (go_simp; done)
              try simp only [Act.put, List.setIfInBounds_toArray, List.set_cons_zero, List.set_cons_succ]
              refine wpAnyT_take (i := 13) (oi := zrsz13) (v := .pointer (some ⟨bb, 0, none⟩)) rfl (by kernel_rfl) (by kernel_rfl) (by kernel_rfl) (by kernel_rfl) (fun _ _ _ h => h) (Or.inl ⟨by rfl, ?_⟩) (unhide HSS _ (unhide HK2)) ?_
              · intro w hSw
                obtain ⟨s0, s1, s2, s3⟩ := hSw
                first
                  | rfl
                  | (go_simp; done)
              try simp only [Act.put, List.setIfInBounds_toArray, List.set_cons_zero, List.set_cons_succ]
              refine wpAnyT_take (i := 14) (oi := zrsz14) (v := .int .i64 p.kind) rfl (by kernel_rfl) (by kernel_rfl) (by kernel_rfl) (by kernel_rfl) (fun _ _ _ h => h) (Or.inl ⟨by rfl, ?_⟩) (unhide HSS _ (unhide HK2)) ?_
              · intro w hSw
                obtain ⟨s0, s1, s2, s3⟩ := hSw
                first
                  | rfl
                  | (go_simp; done)
              try simp only [Act.put, List.setIfInBounds_toArray, List.set_cons_zero, List.set_cons_succ]
              refine wpAnyT_take (i := 15) (oi := zrsz15) (v := .bool false) rfl (by kernel_rfl) (by kernel_rfl) (by kernel_rfl) (by kernel_rfl) (fun _ _ _ h => h) (Or.inl ⟨by rfl, ?_⟩) (unhide HSS _ (unhide HK2)) ?_
              · intro w hSw
                obtain ⟨s0, s1, s2, s3⟩ := hSw
                first
                  | rfl
                  | (go_simp; done)
              try simp only [Act.put, List.setIfInBounds_toArray, List.set_cons_zero, List.set_cons_succ]
              refine wpAnyT_take (i := 16) (oi := zrsz16) (v := .bool false) rfl (by kernel_rfl) (by kernel_rfl) (by kernel_rfl) (by kernel_rfl) (fun _ _ _ h => h) (Or.inl ⟨by rfl, ?_⟩) (unhide HSS _ (unhide HK2)) ?_
              · intro w hSw
                obtain ⟨s0, s1, s2, s3⟩ := hSw
                first
                  | rfl
                  | (go_simp; done)
              try simp only [Act.put, List.setIfInBounds_toArray, List.set_cons_zero, List.set_cons_succ]
              refine wpAnyT_take (i := 17) (oi := zrsz17) (v := .slice (some ⟨b, off, none⟩) n c) rfl (by kernel_rfl) (by kernel_rfl) (by kernel_rfl) (by kernel_rfl) (fun _ _ _ h => h) (Or.inl ⟨by rfl, ?_⟩) (unhide HSS _ (unhide HK2)) ?_
              · intro w hSw
                obtain ⟨s0, s1, s2, s3⟩ := hSw
                first
                  | rfl
                  | (go_simp; done)
              try simp only [Act.put, List.setIfInBounds_toArray, List.set_cons_zero, List.set_cons_succ]
              refine wpAnyT_take (i := 18) (oi := zrsz18) (v := .int .i64 ((j : Int) + 1)) rfl (by kernel_rfl) (by kernel_rfl) (by kernel_rfl) (by kernel_rfl) (fun _ _ _ h => h) (Or.inl ⟨by rfl, ?_⟩) (unhide HSS _ (unhide HK2)) ?_
              · intro w hSw
                obtain ⟨s0, s1, s2, s3⟩ := hSw
                first
                  | rfl
                  | (go_simp; done)
              try simp only [Act.put, List.setIfInBounds_toArray, List.set_cons_zero, List.set_cons_succ]
              refine wpAnyT_take (i := 19) (oi := zrsz19) (v := .int .i64 (j : Int)) rfl (by kernel_rfl) (by kernel_rfl) (by kernel_rfl) (by kernel_rfl) (fun _ _ _ h => h) (Or.inl ⟨by rfl, ?_⟩) (unhide HSS _ (unhide HK2)) ?_
              · intro w hSw
                obtain ⟨s0, s1, s2, s3⟩ := hSw
                first
                  | rfl
                  | (go_simp; done)
              try simp only [Act.put, List.setIfInBounds_toArray, List.set_cons_zero, List.set_cons_succ]
              refine wpAnyT_take (i := 20) (oi := zrsz20) (v := .pointer (some ⟨b, off + j * 3, none⟩)) rfl (by kernel_rfl) (by kernel_rfl) (by kernel_rfl) (by kernel_rfl) (fun _ _ _ h => h) (Or.inl ⟨by rfl, ?_⟩) (unhide HSS _ (unhide HK2)) ?_
              · intro w hSw
                obtain ⟨s0, s1, s2, s3⟩ := hSw
                first
                  | rfl
                  | (go_simp; done)
              try simp only [Act.put, List.setIfInBounds_toArray, List.set_cons_zero, List.set_cons_succ]
              refine wpAnyT_take (i := 21) (oi := zrsz21) (v := .pointer (some ⟨b, off + j * 3, none⟩)) rfl (by kernel_rfl) (by kernel_rfl) (by kernel_rfl) (by kernel_rfl) (fun _ _ _ h => h) (Or.inl ⟨by rfl, ?_⟩) (unhide HSS _ (unhide HK2)) ?_
              · intro w hSw
                obtain ⟨s0, s1, s2, s3⟩ := hSw
                first
                  | rfl
                  | (go_simp; done)
              try simp only [Act.put, List.setIfInBounds_toArray, List.set_cons_zero, List.set_cons_succ]
              refine wpAnyT_take (i := 22) (oi := zrsz22) (v := .int .i64 lv) rfl (by kernel_rfl) (by kernel_rfl) (by kernel_rfl) (by kernel_rfl) (fun _ _ _ h => h) (Or.inl ⟨by rfl, ?_⟩) (unhide HSS _ (unhide HK2)) ?_
              · intro w hSw
                obtain ⟨s0, s1, s2, s3⟩ := hSw
                first
                  | rfl
                  | (go_simp; done)
              try simp only [Act.put, List.setIfInBounds_toArray, List.set_cons_zero, List.set_cons_succ]
              refine wpAnyT_take (i := 23) (oi := zrsz23) (v := .bool true) rfl (by kernel_rfl) (by kernel_rfl) (by kernel_rfl) (by kernel_rfl) (fun _ _ _ h => h) (Or.inl ⟨by rfl, ?_⟩) (unhide HSS _ (unhide HK2)) ?_
              · intro w hSw
                obtain ⟨s0, s1, s2, s3⟩ := hSw
                first
                  | rfl
                  | (go_simp; done)
              try simp only [Act.put, List.setIfInBounds_toArray, List.set_cons_zero, List.set_cons_succ]
              refine wpAnyT_take (i := 24) (oi := zrsz24) (v := .bool true) rfl (by kernel_rfl) (by kernel_rfl) (by kernel_rfl) (by kernel_rfl) (fun _ _ _ h => h) (Or.inl ⟨by rfl, ?_⟩) (unhide HSS _ (unhide HK2)) ?_
              · intro w hSw
                obtain ⟨s0, s1, s2, s3⟩ := hSw
                first
                  | rfl
                  | (go_simp; done)
              try simp only [Act.put, List.setIfInBounds_toArray, List.set_cons_zero, List.set_cons_succ]
              refine wpAnyT_take (i := 25) (oi := zrsz25) (v := .pointer (some ⟨bb, 0, none⟩)) rfl (by kernel_rfl) (by kernel_rfl) (by kernel_rfl) (by kernel_rfl) (fun _ _ _ h => h) (Or.inl ⟨by rfl, ?_⟩) (unhide HSS _ (unhide HK2)) ?_
              · intro w hSw
                obtain ⟨s0, s1, s2, s3⟩ := hSw
                first
                  | rfl
                  | (go_simp; done)
              try simp only [Act.put, List.setIfInBounds_toArray, List.set_cons_zero, List.set_cons_succ]
              refine wpAnyT_take (i := 26) (oi := zrsz26) (v := .int .i64 p.kind) rfl (by kernel_rfl) (by kernel_rfl) (by kernel_rfl) (by kernel_rfl) (fun _ _ _ h => h) (Or.inl ⟨by rfl, ?_⟩) (unhide HSS _ (unhide HK2)) ?_
              · intro w hSw
                obtain ⟨s0, s1, s2, s3⟩ := hSw
                first
                  | rfl
                  | (go_simp; done)
              try simp only [Act.put, List.setIfInBounds_toArray, List.set_cons_zero, List.set_cons_succ]
              refine wpAnyT_take (i := 27) (oi := zrsz27) (v := .bool true) rfl (by kernel_rfl) (by kernel_rfl) (by kernel_rfl) (by kernel_rfl) (fun _ _ _ h => h) (Or.inl ⟨by rfl, ?_⟩) (unhide HSS _ (unhide HK2)) ?_
              · intro w hSw
                obtain ⟨s0, s1, s2, s3⟩ := hSw
                first
                  | rfl
                  | (go_simp; done)
              try simp only [Act.put, List.setIfInBounds_toArray, List.set_cons_zero, List.set_cons_succ]
              refine wpAnyT_take (i := 28) (oi := zrsz28) (v := .bool true) rfl (by kernel_rfl) (by kernel_rfl) (by kernel_rfl) (by kernel_rfl) (fun _ _ _ h => h) (Or.inl ⟨by rfl, ?_⟩) (unhide HSS _ (unhide HK2)) ?_
              · intro w hSw
                obtain ⟨s0, s1, s2, s3⟩ := hSw
                first
                  | rfl
                  | (go_simp; done)
              try simp only [Act.put, List.setIfInBounds_toArray, List.set_cons_zero, List.set_cons_succ]
              refine wpAnyT_take (i := 29) (oi := zrsz29) (v := .bool true) rfl (by kernel_rfl) (by kernel_rfl) (by kernel_rfl) (by kernel_rfl) (fun _ _ _ h => h) (Or.inl ⟨by rfl, ?_⟩) (unhide HSS _ (unhide HK2)) ?_
              · intro w hSw
                obtain ⟨s0, s1, s2, s3⟩ := hSw
                first
                  | rfl
                  | (go_simp; done)
              try simp only [Act.put, List.setIfInBounds_toArray, List.set_cons_zero, List.set_cons_succ]
              refine wpAnyT_take (i := 30) (oi := zrsz30) (v := .bool true) rfl (by kernel_rfl) (by kernel_rfl) (by kernel_rfl) (by kernel_rfl) (fun _ _ _ h => h) (Or.inl ⟨by rfl, ?_⟩) (unhide HSS _ (unhide HK2)) ?_
              · intro w hSw
                obtain ⟨s0, s1, s2, s3⟩ := hSw
                first
                  | rfl
                  | (go_simp; done)
              try simp only [Act.put, List.setIfInBounds_toArray, List.set_cons_zero, List.set_cons_succ]
              refine wpAnyT_take (i := 31) (oi := zrsz31) (v := .bool true) rfl (by kernel_rfl) (by kernel_rfl) (by kernel_rfl) (by kernel_rfl) (fun _ _ _ h => h) (Or.inl ⟨by rfl, ?_⟩) (unhide HSS _ (unhide HK2)) ?_
              · intro w hSw
                obtain ⟨s0, s1, s2, s3⟩ := hSw
                first
                  | rfl
                  | (go_simp; done)
              try simp only [Act.put, List.setIfInBounds_toArray, List.set_cons_zero, List.set_cons_succ]
              refine wpAnyT_done (by kernel_rfl) ?_ _
              have HB2 := hide ((unhide HBA).trans ((unhide HK2).mono (unhide HBA).size))
              obtain ⟨r0, r1, r2, r3⟩ := unhide HSS _ (unhide HK2)
              clear HSS HFI HBA HK2 r3 r2
              have HB3 := HB2
              clear HB2
              have HNO : Hid (sizeL (l.take ((j + 1) + 1)) = none) := hide (by rw [unhide HST]; simp [sizeStep, unhide HNF])
              go_wp2_with fail
              go_ret3
              have hz := sizeL_none (unhide HNO)
              exact ⟨by unfold szVal; rw [hz]; rfl, unhide HB3⟩
            · have hk2b : (p.kind == 2) = false := by simp [hk2]
              have HFO : Hid (followsB p.kind lv = true) := hide (by unfold followsB; simp [hk2]; omega)
              clear hsk hk2 hl3
              refine wp_region_T (S := fun W => W.cell? ⟨bb, 0, none⟩ = some (.int .i64 p.kind) ∧ W.cell? ⟨bb, 1, none⟩ = some (.int .i64 p.n) ∧ W.cell? ⟨bb, 2, none⟩ = some (.string p.text) ∧ W.cell? ⟨b, off + j * 3, none⟩ = some (.int .i64 lv)) (fun i => decide (i < 32)) (by kernel_rfl) (unhide HSS _ (Below.refl _ _).drew) (fun hHeld => ?_)
              refine wpAnyT_take (i := 0) (oi := zrsz0) (v := .agg #[.int .i64 p.kind, .int .i64 p.n, .string p.text]) rfl (by kernel_rfl) (by kernel_rfl) (by kernel_rfl) (by kernel_rfl) (fun _ _ _ h => h) (Or.inl ⟨by rfl, ?_⟩) hHeld ?_
              · intro w hSw
                obtain ⟨s0, s1, s2, s3⟩ := hSw
                first
                  | rfl
                  | (go_simp; done)
              try simp only [Act.put, List.setIfInBounds_toArray, List.set_cons_zero, List.set_cons_succ]
              refine wpAnyT_one (i := 1) (o := zrsz1) (by kernel_rfl) rfl (fun K hK => ?_)
              go_simp
              refine Calls.mono (unhide HFI _ (Below.refl _ _).drew) ?_
              rintro r w2 ⟨rfl, hb2⟩
              have HK2 := hide ((Below.refl wA.heap.size wA).drew.trans (hb2.mono (Below.refl wA.heap.size wA).drew.size))
              clear hb2
              go_wp2_with fail
              refine hK.out _ _ (fun _ => unhide HSS _ (unhide HK2)) ?_
              clear hK K
              try simp only [Act.put, List.setIfInBounds_toArray, List.set_cons_zero, List.set_cons_succ]
              refine wpAnyT_take (i := 2) (oi := zrsz2) (v := .bool false) rfl (by kernel_rfl) (by kernel_rfl) (by kernel_rfl) (by kernel_rfl) (fun _ _ _ h => h) (Or.inl ⟨by rfl, ?_⟩) (unhide HSS _ (unhide HK2)) ?_
              · intro w hSw
                obtain ⟨s0, s1, s2, s3⟩ := hSw
                first
                  | rfl
                  | (go_simp; done)
              try simp only [Act.put, List.setIfInBounds_toArray, List.set_cons_zero, List.set_cons_succ]
              refine wpAnyT_take (i := 3) (oi := zrsz3) (v := .bool false) rfl (by kernel_rfl) (by kernel_rfl) (by kernel_rfl) (by kernel_rfl) (fun _ _ _ h => h) (Or.inl ⟨by rfl, ?_⟩) (unhide HSS _ (unhide HK2)) ?_
              · intro w hSw
                obtain ⟨s0, s1, s2, s3⟩ := hSw
                first
                  | rfl
                  | (go_simp; done)
              try simp only [Act.put, List.setIfInBounds_toArray, List.set_cons_zero, List.set_cons_succ]
              refine wpAnyT_take (i := 4) (oi := zrsz4) (v := .int .i64 ((j : Int) + 1)) rfl (by kernel_rfl) (by kernel_rfl) (by kernel_rfl) (by kernel_rfl) (fun _ _ _ h => h) (Or.inl ⟨by rfl, ?_⟩) (unhide HSS _ (unhide HK2)) ?_
              · intro w hSw
                obtain ⟨s0, s1, s2, s3⟩ := hSw
                first
                  | rfl
                  | (go_simp; done)
              try simp only [Act.put, List.setIfInBounds_toArray, List.set_cons_zero, List.set_cons_succ]
              refine wpAnyT_take (i := 5) (oi := zrsz5) (v := .bool true) rfl (by kernel_rfl) (by kernel_rfl) (by kernel_rfl) (by kernel_rfl) (fun _ _ _ h => h) (Or.inl ⟨by rfl, ?_⟩) (unhide HSS _ (unhide HK2)) ?_
              · intro w hSw
                obtain ⟨s0, s1, s2, s3⟩ := hSw
                first
                  | rfl
                  | (go_simp; done)
              try simp only [Act.put, List.setIfInBounds_toArray, List.set_cons_zero, List.set_cons_succ]
              refine wpAnyT_take (i := 6) (oi := zrsz6) (v := .bool true) rfl (by kernel_rfl) (by kernel_rfl) (by kernel_rfl) (by kernel_rfl) (fun _ _ _ h => h) (Or.inl ⟨by rfl, ?_⟩) (unhide HSS _ (unhide HK2)) ?_
              · intro w hSw
                obtain ⟨s0, s1, s2, s3⟩ := hSw
                first
                  | rfl
                  | (go_simp; done)
              try simp only [Act.put, List.setIfInBounds_toArray, List.set_cons_zero, List.set_cons_succ]
              refine wpAnyT_take (i := 7) (oi := zrsz7) (v := .slice (some ⟨b, off, none⟩) n c) rfl (by kernel_rfl) (by kernel_rfl) (by kernel_rfl) (by kernel_rfl) (fun _ _ _ h => h) (Or.inl ⟨by rfl, ?_⟩) (unhide HSS _ (unhide HK2)) ?_
              · intro w hSw
                obtain ⟨s0, s1, s2, s3⟩ := hSw
                first
                  | rfl
                  | (go_simp; done)
              try simp only [Act.put, List.setIfInBounds_toArray, List.set_cons_zero, List.set_cons_succ]
              refine wpAnyT_take (i := 8) (oi := zrsz8) (v := .int .i64 ((j : Int) + 1)) rfl (by kernel_rfl) (by kernel_rfl) (by kernel_rfl) (by kernel_rfl) (fun _ _ _ h => h) (Or.inl ⟨by rfl, ?_⟩) (unhide HSS _ (unhide HK2)) ?_
              · intro w hSw
                obtain ⟨s0, s1, s2, s3⟩ := hSw
                first
                  | rfl
                  | (go_simp; done)
              try simp only [Act.put, List.setIfInBounds_toArray, List.set_cons_zero, List.set_cons_succ]
              refine wpAnyT_take (i := 9) (oi := zrsz9) (v := .int .i64 (j : Int)) rfl (by kernel_rfl) (by kernel_rfl) (by kernel_rfl) (by kernel_rfl) (fun _ _ _ h => h) (Or.inl ⟨by rfl, ?_⟩) (unhide HSS _ (unhide HK2)) ?_
              · intro w hSw
                obtain ⟨s0, s1, s2, s3⟩ := hSw
                first
                  | rfl
                  | (go_simp; done)
              try simp only [Act.put, List.setIfInBounds_toArray, List.set_cons_zero, List.set_cons_succ]
              refine wpAnyT_take (i := 10) (oi := zrsz10) (v := .pointer (some ⟨b, off + j * 3, none⟩)) rfl (by kernel_rfl) (by kernel_rfl) (by kernel_rfl) (by kernel_rfl) (fun _ _ _ h => h) (Or.inl ⟨by rfl, ?_⟩) (unhide HSS _ (unhide HK2)) ?_
              · intro w hSw
                obtain ⟨s0, s1, s2, s3⟩ := hSw
                first
                  | rfl
                  | (go_simp; done)
              try simp only [Act.put, List.setIfInBounds_toArray, List.set_cons_zero, List.set_cons_succ]
              refine wpAnyT_take (i := 11) (oi := zrsz11) (v := .pointer (some ⟨b, off + j * 3, none⟩)) rfl (by kernel_rfl) (by kernel_rfl) (by kernel_rfl) (by kernel_rfl) (fun _ _ _ h => h) (Or.inl ⟨by rfl, ?_⟩) (unhide HSS _ (unhide HK2)) ?_
              · intro w hSw
                obtain ⟨s0, s1, s2, s3⟩ := hSw
                first
                  | rfl
                  | (go_simp; done)
              try simp only [Act.put, List.setIfInBounds_toArray, List.set_cons_zero, List.set_cons_succ]
              refine wpAnyT_take (i := 12) (oi := zrsz12) (v := .int .i64 lv) rfl (by kernel_rfl) (by kernel_rfl) (by kernel_rfl) (by kernel_rfl) (fun _ _ _ h => h) (Or.inl ⟨by rfl, ?_⟩) (unhide HSS _ (unhide HK2)) ?_
              · intro w hSw
                obtain ⟨s0, s1, s2, s3⟩ := hSw
                first
                  | rfl
                  | (go_simp; done)
              try simp only [Act.put, List.setIfInBounds_toArray, List.set_cons_zero, List.set_cons_succ]
              refine wpAnyT_take (i := 13) (oi := zrsz13) (v := .pointer (some ⟨bb, 0, none⟩)) rfl (by kernel_rfl) (by kernel_rfl) (by kernel_rfl) (by kernel_rfl) (fun _ _ _ h => h) (Or.inl ⟨by rfl, ?_⟩) (unhide HSS _ (unhide HK2)) ?_
              · intro w hSw
                obtain ⟨s0, s1, s2, s3⟩ := hSw
                first
                  | rfl
                  | (go_simp; done)
              try simp only [Act.put, List.setIfInBounds_toArray, List.set_cons_zero, List.set_cons_succ]
              refine wpAnyT_take (i := 14) (oi := zrsz14) (v := .int .i64 p.kind) rfl (by kernel_rfl) (by kernel_rfl) (by kernel_rfl) (by kernel_rfl) (fun _ _ _ h => h) (Or.inl ⟨by rfl, ?_⟩) (unhide HSS _ (unhide HK2)) ?_
              · intro w hSw
                obtain ⟨s0, s1, s2, s3⟩ := hSw
                first
                  | rfl
                  | (go_simp; done)
              try simp only [Act.put, List.setIfInBounds_toArray, List.set_cons_zero, List.set_cons_succ]
              refine wpAnyT_take (i := 15) (oi := zrsz15) (v := .bool false) rfl (by kernel_rfl) (by kernel_rfl) (by kernel_rfl) (by kernel_rfl) (fun _ _ _ h => h) (Or.inl ⟨by rfl, ?_⟩) (unhide HSS _ (unhide HK2)) ?_
              · intro w hSw
                obtain ⟨s0, s1, s2, s3⟩ := hSw
                first
                  | rfl
                  | (go_simp; done)
              try simp only [Act.put, List.setIfInBounds_toArray, List.set_cons_zero, List.set_cons_succ]
              refine wpAnyT_take (i := 16) (oi := zrsz16) (v := .bool false) rfl (by kernel_rfl) (by kernel_rfl) (by kernel_rfl) (by kernel_rfl) (fun _ _ _ h => h) (Or.inl ⟨by rfl, ?_⟩) (unhide HSS _ (unhide HK2)) ?_
              · intro w hSw
                obtain ⟨s0, s1, s2, s3⟩ := hSw
                first
                  | rfl
                  | (go_simp; done)
              try simp only [Act.put, List.setIfInBounds_toArray, List.set_cons_zero, List.set_cons_succ]
              refine wpAnyT_take (i := 17) (oi := zrsz17) (v := .slice (some ⟨b, off, none⟩) n c) rfl (by kernel_rfl) (by kernel_rfl) (by kernel_rfl) (by kernel_rfl) (fun _ _ _ h => h) (Or.inl ⟨by rfl, ?_⟩) (unhide HSS _ (unhide HK2)) ?_
              · intro w hSw
                obtain ⟨s0, s1, s2, s3⟩ := hSw
                first
                  | rfl
                  | (go_simp; done)
              try simp only [Act.put, List.setIfInBounds_toArray, List.set_cons_zero, List.set_cons_succ]
              refine wpAnyT_take (i := 18) (oi := zrsz18) (v := .int .i64 ((j : Int) + 1)) rfl (by kernel_rfl) (by kernel_rfl) (by kernel_rfl) (by kernel_rfl) (fun _ _ _ h => h) (Or.inl ⟨by rfl, ?_⟩) (unhide HSS _ (unhide HK2)) ?_
              · intro w hSw
                obtain ⟨s0, s1, s2, s3⟩ := hSw
                first
                  | rfl
                  | (go_simp; done)
              try simp only [Act.put, List.setIfInBounds_toArray, List.set_cons_zero, List.set_cons_succ]
              refine wpAnyT_take (i := 19) (oi := zrsz19) (v := .int .i64 (j : Int)) rfl (by kernel_rfl) (by kernel_rfl) (by kernel_rfl) (by kernel_rfl) (fun _ _ _ h => h) (Or.inl ⟨by rfl, ?_⟩) (unhide HSS _ (unhide HK2)) ?_
              · intro w hSw
                obtain ⟨s0, s1, s2, s3⟩ := hSw
                first
                  | rfl
                  | (go_simp; done)
              try simp only [Act.put, List.setIfInBounds_toArray, List.set_cons_zero, List.set_cons_succ]
              refine wpAnyT_take (i := 20) (oi := zrsz20) (v := .pointer (some ⟨b, off + j * 3, none⟩)) rfl (by kernel_rfl) (by kernel_rfl) (by kernel_rfl) (by kernel_rfl) (fun _ _ _ h => h) (Or.inl ⟨by rfl, ?_⟩) (unhide HSS _ (unhide HK2)) ?_
              · intro w hSw
                obtain ⟨s0, s1, s2, s3⟩ := hSw
                first
                  | rfl
                  | (go_simp; done)
              try simp only [Act.put, List.setIfInBounds_toArray, List.set_cons_zero, List.set_cons_succ]
              refine wpAnyT_take (i := 21) (oi := zrsz21) (v := .pointer (some ⟨b, off + j * 3, none⟩)) rfl (by kernel_rfl) (by kernel_rfl) (by kernel_rfl) (by kernel_rfl) (fun _ _ _ h => h) (Or.inl ⟨by rfl, ?_⟩) (unhide HSS _ (unhide HK2)) ?_
              · intro w hSw
                obtain ⟨s0, s1, s2, s3⟩ := hSw
                first
                  | rfl
                  | (go_simp; done)
              try simp only [Act.put, List.setIfInBounds_toArray, List.set_cons_zero, List.set_cons_succ]
              refine wpAnyT_take (i := 22) (oi := zrsz22) (v := .int .i64 lv) rfl (by kernel_rfl) (by kernel_rfl) (by kernel_rfl) (by kernel_rfl) (fun _ _ _ h => h) (Or.inl ⟨by rfl, ?_⟩) (unhide HSS _ (unhide HK2)) ?_
              · intro w hSw
                obtain ⟨s0, s1, s2, s3⟩ := hSw
                first
                  | rfl
                  | (go_simp; done)
              try simp only [Act.put, List.setIfInBounds_toArray, List.set_cons_zero, List.set_cons_succ]
              refine wpAnyT_take (i := 23) (oi := zrsz23) (v := .bool true) rfl (by kernel_rfl) (by kernel_rfl) (by kernel_rfl) (by kernel_rfl) (fun _ _ _ h => h) (Or.inl ⟨by rfl, ?_⟩) (unhide HSS _ (unhide HK2)) ?_
              · intro w hSw
                obtain ⟨s0, s1, s2, s3⟩ := hSw
                first
                  | rfl
                  | (go_simp; done)
              try simp only [Act.put, List.setIfInBounds_toArray, List.set_cons_zero, List.set_cons_succ]
              refine wpAnyT_take (i := 24) (oi := zrsz24) (v := .bool true) rfl (by kernel_rfl) (by kernel_rfl) (by kernel_rfl) (by kernel_rfl) (fun _ _ _ h => h) (Or.inl ⟨by rfl, ?_⟩) (unhide HSS _ (unhide HK2)) ?_
              · intro w hSw
                obtain ⟨s0, s1, s2, s3⟩ := hSw
                first
                  | rfl
                  | (go_simp; done)
              try simp only [Act.put, List.setIfInBounds_toArray, List.set_cons_zero, List.set_cons_succ]
              refine wpAnyT_take (i := 25) (oi := zrsz25) (v := .pointer (some ⟨bb, 0, none⟩)) rfl (by kernel_rfl) (by kernel_rfl) (by kernel_rfl) (by kernel_rfl) (fun _ _ _ h => h) (Or.inl ⟨by rfl, ?_⟩) (unhide HSS _ (unhide HK2)) ?_
              · intro w hSw
                obtain ⟨s0, s1, s2, s3⟩ := hSw
                first
                  | rfl
                  | (go_simp; done)
              try simp only [Act.put, List.setIfInBounds_toArray, List.set_cons_zero, List.set_cons_succ]
              refine wpAnyT_take (i := 26) (oi := zrsz26) (v := .int .i64 p.kind) rfl (by kernel_rfl) (by kernel_rfl) (by kernel_rfl) (by kernel_rfl) (fun _ _ _ h => h) (Or.inl ⟨by rfl, ?_⟩) (unhide HSS _ (unhide HK2)) ?_
              · intro w hSw
                obtain ⟨s0, s1, s2, s3⟩ := hSw
                first
                  | rfl
                  | (go_simp; done)
              try simp only [Act.put, List.setIfInBounds_toArray, List.set_cons_zero, List.set_cons_succ]
              refine wpAnyT_take (i := 27) (oi := zrsz27) (v := .bool false) rfl (by kernel_rfl) (by kernel_rfl) (by kernel_rfl) (by kernel_rfl) (fun _ _ _ h => h) (Or.inl ⟨by rfl, ?_⟩) (unhide HSS _ (unhide HK2)) ?_
              · intro w hSw
                obtain ⟨s0, s1, s2, s3⟩ := hSw
                first
                  | rfl
                  | (go_simp; done)
              try simp only [Act.put, List.setIfInBounds_toArray, List.set_cons_zero, List.set_cons_succ]
              refine wpAnyT_take (i := 28) (oi := zrsz28) (v := .bool false) rfl (by kernel_rfl) (by kernel_rfl) (by kernel_rfl) (by kernel_rfl) (fun _ _ _ h => h) (Or.inl ⟨by rfl, ?_⟩) (unhide HSS _ (unhide HK2)) ?_
              · intro w hSw
                obtain ⟨s0, s1, s2, s3⟩ := hSw
                first
                  | rfl
                  | (go_simp; done)
              try simp only [Act.put, List.setIfInBounds_toArray, List.set_cons_zero, List.set_cons_succ]
              refine wpAnyT_take (i := 29) (oi := zrsz29) (v := .bool false) rfl (by kernel_rfl) (by kernel_rfl) (by kernel_rfl) (by kernel_rfl) (fun _ _ _ h => h) (Or.inl ⟨by rfl, ?_⟩) (unhide HSS _ (unhide HK2)) ?_
              · intro w hSw
                obtain ⟨s0, s1, s2, s3⟩ := hSw
                first
                  | rfl
                  | (go_simp; done)
              try simp only [Act.put, List.setIfInBounds_toArray, List.set_cons_zero, List.set_cons_succ]
              refine wpAnyT_take (i := 30) (oi := zrsz30) (v := .bool false) rfl (by kernel_rfl) (by kernel_rfl) (by kernel_rfl) (by kernel_rfl) (fun _ _ _ h => h) (Or.inl ⟨by rfl, ?_⟩) (unhide HSS _ (unhide HK2)) ?_
              · intro w hSw
                obtain ⟨s0, s1, s2, s3⟩ := hSw
                first
                  | rfl
                  | (go_simp; done)
              try simp only [Act.put, List.setIfInBounds_toArray, List.set_cons_zero, List.set_cons_succ]
              refine wpAnyT_take (i := 31) (oi := zrsz31) (v := .bool false) rfl (by kernel_rfl) (by kernel_rfl) (by kernel_rfl) (by kernel_rfl) (fun _ _ _ h => h) (Or.inl ⟨by rfl, ?_⟩) (unhide HSS _ (unhide HK2)) ?_
              · intro w hSw
                obtain ⟨s0, s1, s2, s3⟩ := hSw
                first
                  | rfl
                  | (go_simp; done)
              try simp only [Act.put, List.setIfInBounds_toArray, List.set_cons_zero, List.set_cons_succ]
              refine wpAnyT_done (by kernel_rfl) ?_ _
              have HB2 := hide ((unhide HBA).trans ((unhide HK2).mono (unhide HBA).size))
              obtain ⟨r0, r1, r2, r3⟩ := unhide HSS _ (unhide HK2)
              clear HSS HFI HBA HK2 r3 r2
              have HB3 := HB2
              clear HB2
              by_cases k2 : p.kind = 2
              · rw [k2] at r0
                have K2 := hide k2
                by_cases hA : 1099511627776 < fv
                · exfalso; omega
                by_cases hB : 1099511627776 < tv + p.n
                · have HNO : Hid (sizeL (l.take (j + 1 + 1)) = none) := hide (by rw [unhide HST]; simp only [sizeStep]; rw [if_pos ⟨unhide HFB, unhide HFO⟩]; simp only [unhide K2, if_true, show ((2 : Int) = 3) = False from by simp, if_false]; rw [if_pos (.inr hB)])
                  go_wp2_with fail
                  go_ret3
                  have hz := sizeL_none (unhide HNO)
                  exact ⟨by unfold szVal; rw [hz]; rfl, unhide HB3⟩
                have HNX : Hid (sizeL (l.take (j + 1 + 1)) = some (fv, tv + p.n, p.kind)) := hide (by rw [unhide HST]; simp only [sizeStep]; rw [if_pos ⟨unhide HFB, unhide HFO⟩]; simp only [unhide K2, if_true, show ((2 : Int) = 3) = False from by simp, if_false]; rw [if_neg (by omega)])
                go_wp2_with fail
                exact ⟨⟨j + 1 + 1, by omega, by simp, ⟨_, _, _, rfl, rfl, HNX⟩, HB3⟩, by simp [intOf]; omega⟩
              have k2b : (p.kind == 2) = false := by simp [k2]
              by_cases k3 : p.kind = 3
              · rw [k3] at r0
                have K3 := hide k3
                by_cases hA : 1099511627776 < fv + p.n
                · have HNO : Hid (sizeL (l.take (j + 1 + 1)) = none) := hide (by rw [unhide HST]; simp only [sizeStep]; rw [if_pos ⟨unhide HFB, unhide HFO⟩]; simp only [unhide K3, if_true, show ((3 : Int) = 2) = False from by simp, if_false]; rw [if_pos (.inl hA)])
                  go_wp2_with fail
                  go_ret3
                  have hz := sizeL_none (unhide HNO)
                  exact ⟨by unfold szVal; rw [hz]; rfl, unhide HB3⟩
                by_cases hB : 1099511627776 < tv
                · exfalso; omega
                have HNX : Hid (sizeL (l.take (j + 1 + 1)) = some (fv + p.n, tv, p.kind)) := hide (by rw [unhide HST]; simp only [sizeStep]; rw [if_pos ⟨unhide HFB, unhide HFO⟩]; simp only [unhide K3, if_true, show ((3 : Int) = 2) = False from by simp, if_false]; rw [if_neg (by omega)])
                go_wp2_with fail
                exact ⟨⟨j + 1 + 1, by omega, by simp, ⟨_, _, _, rfl, rfl, HNX⟩, HB3⟩, by simp [intOf]; omega⟩
              have k3b : (p.kind == 3) = false := by simp [k3]
              by_cases hA : 1099511627776 < fv + p.n
              · have HNO : Hid (sizeL (l.take (j + 1 + 1)) = none) := hide (by rw [unhide HST]; simp only [sizeStep]; rw [if_pos ⟨unhide HFB, unhide HFO⟩]; simp only [k2, k3, if_false]; rw [if_pos (.inl hA)])
                go_wp2_with fail
                go_ret3
                have hz := sizeL_none (unhide HNO)
                exact ⟨by unfold szVal; rw [hz]; rfl, unhide HB3⟩
              by_cases hB : 1099511627776 < tv + p.n
              · have HNO : Hid (sizeL (l.take (j + 1 + 1)) = none) := hide (by rw [unhide HST]; simp only [sizeStep]; rw [if_pos ⟨unhide HFB, unhide HFO⟩]; simp only [k2, k3, if_false]; rw [if_pos (.inr hB)])
                go_wp2_with fail
                go_ret3
                have hz := sizeL_none (unhide HNO)
                exact ⟨by unfold szVal; rw [hz]; rfl, unhide HB3⟩
              have HNX : Hid (sizeL (l.take (j + 1 + 1)) = some (fv + p.n, tv + p.n, p.kind)) := hide (by rw [unhide HST]; simp only [sizeStep]; rw [if_pos ⟨unhide HFB, unhide HFO⟩]; simp only [k2, k3, if_false]; rw [if_neg (by omega)])
              go_wp2_with fail
              exact ⟨⟨j + 1 + 1, by omega, by simp, ⟨_, _, _, rfl, rfl, HNX⟩, HB3⟩, by simp [intOf]; omega⟩
          · have hl3b : (lv == 3) = false := by simp [hl3]
            have HFO : Hid (followsB p.kind lv = true) := hide (by unfold followsB; simp [hl3]; omega)
            clear hsk hl3
            refine wp_region_T (S := fun W => W.cell? ⟨bb, 0, none⟩ = some (.int .i64 p.kind) ∧ W.cell? ⟨bb, 1, none⟩ = some (.int .i64 p.n) ∧ W.cell? ⟨bb, 2, none⟩ = some (.string p.text) ∧ W.cell? ⟨b, off + j * 3, none⟩ = some (.int .i64 lv)) (fun i => decide (i < 32)) (by kernel_rfl) (unhide HSS _ (Below.refl _ _).drew) (fun hHeld => ?_)
            refine wpAnyT_take (i := 0) (oi := zrsz0) (v := .agg #[.int .i64 p.kind, .int .i64 p.n, .string p.text]) rfl (by kernel_rfl) (by kernel_rfl) (by kernel_rfl) (by kernel_rfl) (fun _ _ _ h => h) (Or.inl ⟨by rfl, ?_⟩) hHeld ?_
            · intro w hSw
              obtain ⟨s0, s1, s2, s3⟩ := hSw
              first
                | rfl
                | (go_simp; done)
            try simp only [Act.put, List.setIfInBounds_toArray, List.set_cons_zero, List.set_cons_succ]
            refine wpAnyT_one (i := 1) (o := zrsz1) (by kernel_rfl) rfl (fun K hK => ?_)
            go_simp
            refine Calls.mono (unhide HFI _ (Below.refl _ _).drew) ?_
            rintro r w2 ⟨rfl, hb2⟩
            have HK2 := hide ((Below.refl wA.heap.size wA).drew.trans (hb2.mono (Below.refl wA.heap.size wA).drew.size))
            clear hb2
            go_wp2_with fail
            refine hK.out _ _ (fun _ => unhide HSS _ (unhide HK2)) ?_
            clear hK K
            try simp only [Act.put, List.setIfInBounds_toArray, List.set_cons_zero, List.set_cons_succ]
            refine wpAnyT_take (i := 2) (oi := zrsz2) (v := .bool false) rfl (by kernel_rfl) (by kernel_rfl) (by kernel_rfl) (by kernel_rfl) (fun _ _ _ h => h) (Or.inl ⟨by rfl, ?_⟩) (unhide HSS _ (unhide HK2)) ?_
            · intro w hSw
              obtain ⟨s0, s1, s2, s3⟩ := hSw
              first
                | rfl
                | (go_simp; done)
            try simp only [Act.put, List.setIfInBounds_toArray, List.set_cons_zero, List.set_cons_succ]
            refine wpAnyT_take (i := 3) (oi := zrsz3) (v := .bool false) rfl (by kernel_rfl) (by kernel_rfl) (by kernel_rfl) (by kernel_rfl) (fun _ _ _ h => h) (Or.inl ⟨by rfl, ?_⟩) (unhide HSS _ (unhide HK2)) ?_
            · intro w hSw
              obtain ⟨s0, s1, s2, s3⟩ := hSw
              first
                | rfl
                | (go_simp; done)
            try simp only [Act.put, List.setIfInBounds_toArray, List.set_cons_zero, List.set_cons_succ]
            refine wpAnyT_take (i := 4) (oi := zrsz4) (v := .int .i64 ((j : Int) + 1)) rfl (by kernel_rfl) (by kernel_rfl) (by kernel_rfl) (by kernel_rfl) (fun _ _ _ h => h) (Or.inl ⟨by rfl, ?_⟩) (unhide HSS _ (unhide HK2)) ?_
            · intro w hSw
              obtain ⟨s0, s1, s2, s3⟩ := hSw
              first
                | rfl
                | (go_simp; done)
            try simp only [Act.put, List.setIfInBounds_toArray, List.set_cons_zero, List.set_cons_succ]
            refine wpAnyT_take (i := 5) (oi := zrsz5) (v := .bool true) rfl (by kernel_rfl) (by kernel_rfl) (by kernel_rfl) (by kernel_rfl) (fun _ _ _ h => h) (Or.inl ⟨by rfl, ?_⟩) (unhide HSS _ (unhide HK2)) ?_
            · intro w hSw
              obtain ⟨s0, s1, s2, s3⟩ := hSw
              first
                | rfl
                | (go_simp; done)
            try simp only [Act.put, List.setIfInBounds_toArray, List.set_cons_zero, List.set_cons_succ]
            refine wpAnyT_take (i := 6) (oi := zrsz6) (v := .bool true) rfl (by kernel_rfl) (by kernel_rfl) (by kernel_rfl) (by kernel_rfl) (fun _ _ _ h => h) (Or.inl ⟨by rfl, ?_⟩) (unhide HSS _ (unhide HK2)) ?_
            · intro w hSw
              obtain ⟨s0, s1, s2, s3⟩ := hSw
              first
                | rfl
                | (go_simp; done)
            try simp only [Act.put, List.setIfInBounds_toArray, List.set_cons_zero, List.set_cons_succ]
            refine wpAnyT_take (i := 7) (oi := zrsz7) (v := .slice (some ⟨b, off, none⟩) n c) rfl (by kernel_rfl) (by kernel_rfl) (by kernel_rfl) (by kernel_rfl) (fun _ _ _ h => h) (Or.inl ⟨by rfl, ?_⟩) (unhide HSS _ (unhide HK2)) ?_
            · intro w hSw
              obtain ⟨s0, s1, s2, s3⟩ := hSw
              first
                | rfl
                | (go_simp; done)
            try simp only [Act.put, List.setIfInBounds_toArray, List.set_cons_zero, List.set_cons_succ]
            refine wpAnyT_take (i := 8) (oi := zrsz8) (v := .int .i64 ((j : Int) + 1)) rfl (by kernel_rfl) (by kernel_rfl) (by kernel_rfl) (by kernel_rfl) (fun _ _ _ h => h) (Or.inl ⟨by rfl, ?_⟩) (unhide HSS _ (unhide HK2)) ?_
            · intro w hSw
              obtain ⟨s0, s1, s2, s3⟩ := hSw
              first
                | rfl
                | (go_simp; done)
            try simp only [Act.put, List.setIfInBounds_toArray, List.set_cons_zero, List.set_cons_succ]
            refine wpAnyT_take (i := 9) (oi := zrsz9) (v := .int .i64 (j : Int)) rfl (by kernel_rfl) (by kernel_rfl) (by kernel_rfl) (by kernel_rfl) (fun _ _ _ h => h) (Or.inl ⟨by rfl, ?_⟩) (unhide HSS _ (unhide HK2)) ?_
            · intro w hSw
              obtain ⟨s0, s1, s2, s3⟩ := hSw
              first
                | rfl
                | (go_simp; done)
            try simp only [Act.put, List.setIfInBounds_toArray, List.set_cons_zero, List.set_cons_succ]
            refine wpAnyT_take (i := 10) (oi := zrsz10) (v := .pointer (some ⟨b, off + j * 3, none⟩)) rfl (by kernel_rfl) (by kernel_rfl) (by kernel_rfl) (by kernel_rfl) (fun _ _ _ h => h) (Or.inl ⟨by rfl, ?_⟩) (unhide HSS _ (unhide HK2)) ?_
            · intro w hSw
              obtain ⟨s0, s1, s2, s3⟩ := hSw
              first
                | rfl
                | (go_simp; done)
            try simp only [Act.put, List.setIfInBounds_toArray, List.set_cons_zero, List.set_cons_succ]
            refine wpAnyT_take (i := 11) (oi := zrsz11) (v := .pointer (some ⟨b, off + j * 3, none⟩)) rfl (by kernel_rfl) (by kernel_rfl) (by kernel_rfl) (by kernel_rfl) (fun _ _ _ h => h) (Or.inl ⟨by rfl, ?_⟩) (unhide HSS _ (unhide HK2)) ?_
            · intro w hSw
              obtain ⟨s0, s1, s2, s3⟩ := hSw
              first
                | rfl
                | (go_simp; done)
            try simp only [Act.put, List.setIfInBounds_toArray, List.set_cons_zero, List.set_cons_succ]
            refine wpAnyT_take (i := 12) (oi := zrsz12) (v := .int .i64 lv) rfl (by kernel_rfl) (by kernel_rfl) (by kernel_rfl) (by kernel_rfl) (fun _ _ _ h => h) (Or.inl ⟨by rfl, ?_⟩) (unhide HSS _ (unhide HK2)) ?_
            · intro w hSw
              obtain ⟨s0, s1, s2, s3⟩ := hSw
              first
                | rfl
                | (go_simp; done)
            try simp only [Act.put, List.setIfInBounds_toArray, List.set_cons_zero, List.set_cons_succ]
            refine wpAnyT_take (i := 13) (oi := zrsz13) (v := .pointer (some ⟨bb, 0, none⟩)) rfl (by kernel_rfl) (by kernel_rfl) (by kernel_rfl) (by kernel_rfl) (fun _ _ _ h => h) (Or.inl ⟨by rfl, ?_⟩) (unhide HSS _ (unhide HK2)) ?_
            · intro w hSw
              obtain ⟨s0, s1, s2, s3⟩ := hSw
              first
                | rfl
                | (go_simp; done)
            try simp only [Act.put, List.setIfInBounds_toArray, List.set_cons_zero, List.set_cons_succ]
            refine wpAnyT_take (i := 14) (oi := zrsz14) (v := .int .i64 p.kind) rfl (by kernel_rfl) (by kernel_rfl) (by kernel_rfl) (by kernel_rfl) (fun _ _ _ h => h) (Or.inl ⟨by rfl, ?_⟩) (unhide HSS _ (unhide HK2)) ?_
            · intro w hSw
              obtain ⟨s0, s1, s2, s3⟩ := hSw
              first
                | rfl
                | (go_simp; done)
            try simp only [Act.put, List.setIfInBounds_toArray, List.set_cons_zero, List.set_cons_succ]
            refine wpAnyT_take (i := 15) (oi := zrsz15) (v := .bool false) rfl (by kernel_rfl) (by kernel_rfl) (by kernel_rfl) (by kernel_rfl) (fun _ _ _ h => h) (Or.inl ⟨by rfl, ?_⟩) (unhide HSS _ (unhide HK2)) ?_
            · intro w hSw
              obtain ⟨s0, s1, s2, s3⟩ := hSw
              first
                | rfl
                | (go_simp; done)
            try simp only [Act.put, List.setIfInBounds_toArray, List.set_cons_zero, List.set_cons_succ]
            refine wpAnyT_take (i := 16) (oi := zrsz16) (v := .bool false) rfl (by kernel_rfl) (by kernel_rfl) (by kernel_rfl) (by kernel_rfl) (fun _ _ _ h => h) (Or.inl ⟨by rfl, ?_⟩) (unhide HSS _ (unhide HK2)) ?_
            · intro w hSw
              obtain ⟨s0, s1, s2, s3⟩ := hSw
              first
                | rfl
                | (go_simp; done)
            try simp only [Act.put, List.setIfInBounds_toArray, List.set_cons_zero, List.set_cons_succ]
            refine wpAnyT_take (i := 17) (oi := zrsz17) (v := .slice (some ⟨b, off, none⟩) n c) rfl (by kernel_rfl) (by kernel_rfl) (by kernel_rfl) (by kernel_rfl) (fun _ _ _ h => h) (Or.inl ⟨by rfl, ?_⟩) (unhide HSS _ (unhide HK2)) ?_
            · intro w hSw
              obtain ⟨s0, s1, s2, s3⟩ := hSw
              first
                | rfl
                | (go_simp; done)
            try simp only [Act.put, List.setIfInBounds_toArray, List.set_cons_zero, List.set_cons_succ]
            refine wpAnyT_take (i := 18) (oi := zrsz18) (v := .int .i64 ((j : Int) + 1)) rfl (by kernel_rfl) (by kernel_rfl) (by kernel_rfl) (by kernel_rfl) (fun _ _ _ h => h) (Or.inl ⟨by rfl, ?_⟩) (unhide HSS _ (unhide HK2)) ?_
            · intro w hSw
              obtain ⟨s0, s1, s2, s3⟩ := hSw
              first
                | rfl
                | (go_simp; done)
            try simp only [Act.put, List.setIfInBounds_toArray, List.set_cons_zero, List.set_cons_succ]
            refine wpAnyT_take (i := 19) (oi := zrsz19) (v := .int .i64 (j : Int)) rfl (by kernel_rfl) (by kernel_rfl) (by kernel_rfl) (by kernel_rfl) (fun _ _ _ h => h) (Or.inl ⟨by rfl, ?_⟩) (unhide HSS _ (unhide HK2)) ?_
            · intro w hSw
              obtain ⟨s0, s1, s2, s3⟩ := hSw
              first
                | rfl
                | (go_simp; done)
            try simp only [Act.put, List.setIfInBounds_toArray, List.set_cons_zero, List.set_cons_succ]
            refine wpAnyT_take (i := 20) (oi := zrsz20) (v := .pointer (some ⟨b, off + j * 3, none⟩)) rfl (by kernel_rfl) (by kernel_rfl) (by kernel_rfl) (by kernel_rfl) (fun _ _ _ h => h) (Or.inl ⟨by rfl, ?_⟩) (unhide HSS _ (unhide HK2)) ?_
            · intro w hSw
              obtain ⟨s0, s1, s2, s3⟩ := hSw
              first
                | rfl
                | (go_simp; done)
            try simp only [Act.put, List.setIfInBounds_toArray, List.set_cons_zero, List.set_cons_succ]
            refine wpAnyT_take (i := 21) (oi := zrsz21) (v := .pointer (some ⟨b, off + j * 3, none⟩)) rfl (by kernel_rfl) (by kernel_rfl) (by kernel_rfl) (by kernel_rfl) (fun _ _ _ h => h) (Or.inl ⟨by rfl, ?_⟩) (unhide HSS _ (unhide HK2)) ?_
            · intro w hSw
              obtain ⟨s0, s1, s2, s3⟩ := hSw
              first
                | rfl
                | (go_simp; done)
            try simp only [Act.put, List.setIfInBounds_toArray, List.set_cons_zero, List.set_cons_succ]
            refine wpAnyT_take (i := 22) (oi := zrsz22) (v := .int .i64 lv) rfl (by kernel_rfl) (by kernel_rfl) (by kernel_rfl) (by kernel_rfl) (fun _ _ _ h => h) (Or.inl ⟨by rfl, ?_⟩) (unhide HSS _ (unhide HK2)) ?_
            · intro w hSw
              obtain ⟨s0, s1, s2, s3⟩ := hSw
              first
                | rfl
                | (go_simp; done)
            try simp only [Act.put, List.setIfInBounds_toArray, List.set_cons_zero, List.set_cons_succ]
            refine wpAnyT_take (i := 23) (oi := zrsz23) (v := .bool false) rfl (by kernel_rfl) (by kernel_rfl) (by kernel_rfl) (by kernel_rfl) (fun _ _ _ h => h) (Or.inl ⟨by rfl, ?_⟩) (unhide HSS _ (unhide HK2)) ?_
            · intro w hSw
              obtain ⟨s0, s1, s2, s3⟩ := hSw
              first
                | rfl
                | (go_simp; done)
            try simp only [Act.put, List.setIfInBounds_toArray, List.set_cons_zero, List.set_cons_succ]
            refine wpAnyT_take (i := 24) (oi := zrsz24) (v := .bool false) rfl (by kernel_rfl) (by kernel_rfl) (by kernel_rfl) (by kernel_rfl) (fun _ _ _ h => h) (Or.inl ⟨by rfl, ?_⟩) (unhide HSS _ (unhide HK2)) ?_
            · intro w hSw
              obtain ⟨s0, s1, s2, s3⟩ := hSw
              first
                | rfl
                | (go_simp; done)
            try simp only [Act.put, List.setIfInBounds_toArray, List.set_cons_zero, List.set_cons_succ]
            refine wpAnyT_take (i := 25) (oi := zrsz25) (v := undef) rfl (by kernel_rfl) (by kernel_rfl) (by kernel_rfl) (by kernel_rfl) (fun _ _ _ h => h) (Or.inr ⟨by rfl, rfl⟩) (unhide HSS _ (unhide HK2)) ?_
            try simp only [Act.put, List.setIfInBounds_toArray, List.set_cons_zero, List.set_cons_succ]
            refine wpAnyT_take (i := 26) (oi := zrsz26) (v := undef) rfl (by kernel_rfl) (by kernel_rfl) (by kernel_rfl) (by kernel_rfl) (fun _ _ _ h => h) (Or.inr ⟨by rfl, rfl⟩) (unhide HSS _ (unhide HK2)) ?_
            try simp only [Act.put, List.setIfInBounds_toArray, List.set_cons_zero, List.set_cons_succ]
            refine wpAnyT_take (i := 27) (oi := zrsz27) (v := undef) rfl (by kernel_rfl) (by kernel_rfl) (by kernel_rfl) (by kernel_rfl) (fun _ _ _ h => h) (Or.inr ⟨by rfl, rfl⟩) (unhide HSS _ (unhide HK2)) ?_
            try simp only [Act.put, List.setIfInBounds_toArray, List.set_cons_zero, List.set_cons_succ]
            refine wpAnyT_take (i := 28) (oi := zrsz28) (v := .bool false) rfl (by kernel_rfl) (by kernel_rfl) (by kernel_rfl) (by kernel_rfl) (fun _ _ _ h => h) (Or.inl ⟨by rfl, ?_⟩) (unhide HSS _ (unhide HK2)) ?_
            · intro w hSw
              obtain ⟨s0, s1, s2, s3⟩ := hSw
              first
                | rfl
                | (go_simp; done)
            try simp only [Act.put, List.setIfInBounds_toArray, List.set_cons_zero, List.set_cons_succ]
            refine wpAnyT_take (i := 29) (oi := zrsz29) (v := .bool false) rfl (by kernel_rfl) (by kernel_rfl) (by kernel_rfl) (by kernel_rfl) (fun _ _ _ h => h) (Or.inl ⟨by rfl, ?_⟩) (unhide HSS _ (unhide HK2)) ?_
            · intro w hSw
              obtain ⟨s0, s1, s2, s3⟩ := hSw
              first
                | rfl
                | (go_simp; done)
            try simp only [Act.put, List.setIfInBounds_toArray, List.set_cons_zero, List.set_cons_succ]
            refine wpAnyT_take (i := 30) (oi := zrsz30) (v := .bool false) rfl (by kernel_rfl) (by kernel_rfl) (by kernel_rfl) (by kernel_rfl) (fun _ _ _ h => h) (Or.inl ⟨by rfl, ?_⟩) (unhide HSS _ (unhide HK2)) ?_
            · intro w hSw
              obtain ⟨s0, s1, s2, s3⟩ := hSw
              first
                | rfl
                | (go_simp; done)
            try simp only [Act.put, List.setIfInBounds_toArray, List.set_cons_zero, List.set_cons_succ]
            refine wpAnyT_take (i := 31) (oi := zrsz31) (v := .bool false) rfl (by kernel_rfl) (by kernel_rfl) (by kernel_rfl) (by kernel_rfl) (fun _ _ _ h => h) (Or.inl ⟨by rfl, ?_⟩) (unhide HSS _ (unhide HK2)) ?_
            · intro w hSw
              obtain ⟨s0, s1, s2, s3⟩ := hSw
              first
                | rfl
                | (go_simp; done)
            try simp only [Act.put, List.setIfInBounds_toArray, List.set_cons_zero, List.set_cons_succ]
            refine wpAnyT_done (by kernel_rfl) ?_ _
            have HB2 := hide ((unhide HBA).trans ((unhide HK2).mono (unhide HBA).size))
            obtain ⟨r0, r1, r2, r3⟩ := unhide HSS _ (unhide HK2)
            clear HSS HFI HBA HK2 r3 r2
            have HB3 := HB2
            clear HB2
            by_cases k2 : p.kind = 2
            · rw [k2] at r0
              have K2 := hide k2
              by_cases hA : 1099511627776 < fv
              · exfalso; omega
              by_cases hB : 1099511627776 < tv + p.n
              · have HNO : Hid (sizeL (l.take (j + 1 + 1)) = none) := hide (by rw [unhide HST]; simp only [sizeStep]; rw [if_pos ⟨unhide HFB, unhide HFO⟩]; simp only [unhide K2, if_true, show ((2 : Int) = 3) = False from by simp, if_false]; rw [if_pos (.inr hB)])
                go_wp2_with fail
                go_ret3
                have hz := sizeL_none (unhide HNO)
                exact ⟨by unfold szVal; rw [hz]; rfl, unhide HB3⟩
              have HNX : Hid (sizeL (l.take (j + 1 + 1)) = some (fv, tv + p.n, p.kind)) := hide (by rw [unhide HST]; simp only [sizeStep]; rw [if_pos ⟨unhide HFB, unhide HFO⟩]; simp only [unhide K2, if_true, show ((2 : Int) = 3) = False from by simp, if_false]; rw [if_neg (by omega)])
              go_wp2_with fail
              exact ⟨⟨j + 1 + 1, by omega, by simp, ⟨_, _, _, rfl, rfl, HNX⟩, HB3⟩, by simp [intOf]; omega⟩
            have k2b : (p.kind == 2) = false := by simp [k2]
            by_cases k3 : p.kind = 3
            · rw [k3] at r0
              have K3 := hide k3
              by_cases hA : 1099511627776 < fv + p.n
              · have HNO : Hid (sizeL (l.take (j + 1 + 1)) = none) := hide (by rw [unhide HST]; simp only [sizeStep]; rw [if_pos ⟨unhide HFB, unhide HFO⟩]; simp only [unhide K3, if_true, show ((3 : Int) = 2) = False from by simp, if_false]; rw [if_pos (.inl hA)])
                go_wp2_with fail
                go_ret3
                have hz := sizeL_none (unhide HNO)
                exact ⟨by unfold szVal; rw [hz]; rfl, unhide HB3⟩
              by_cases hB : 1099511627776 < tv
              · exfalso; omega
              have HNX : Hid (sizeL (l.take (j + 1 + 1)) = some (fv + p.n, tv, p.kind)) := hide (by rw [unhide HST]; simp only [sizeStep]; rw [if_pos ⟨unhide HFB, unhide HFO⟩]; simp only [unhide K3, if_true, show ((3 : Int) = 2) = False from by simp, if_false]; rw [if_neg (by omega)])
              go_wp2_with fail
              exact ⟨⟨j + 1 + 1, by omega, by simp, ⟨_, _, _, rfl, rfl, HNX⟩, HB3⟩, by simp [intOf]; omega⟩
            have k3b : (p.kind == 3) = false := by simp [k3]
            by_cases hA : 1099511627776 < fv + p.n
            · have HNO : Hid (sizeL (l.take (j + 1 + 1)) = none) := hide (by rw [unhide HST]; simp only [sizeStep]; rw [if_pos ⟨unhide HFB, unhide HFO⟩]; simp only [k2, k3, if_false]; rw [if_pos (.inl hA)])
              go_wp2_with fail
              go_ret3
              have hz := sizeL_none (unhide HNO)
              exact ⟨by unfold szVal; rw [hz]; rfl, unhide HB3⟩
            by_cases hB : 1099511627776 < tv + p.n
            · have HNO : Hid (sizeL (l.take (j + 1 + 1)) = none) := hide (by rw [unhide HST]; simp only [sizeStep]; rw [if_pos ⟨unhide HFB, unhide HFO⟩]; simp only [k2, k3, if_false]; rw [if_pos (.inr hB)])
              go_wp2_with fail
              go_ret3
              have hz := sizeL_none (unhide HNO)
              exact ⟨by unfold szVal; rw [hz]; rfl, unhide HB3⟩
            have HNX : Hid (sizeL (l.take (j + 1 + 1)) = some (fv + p.n, tv + p.n, p.kind)) := hide (by rw [unhide HST]; simp only [sizeStep]; rw [if_pos ⟨unhide HFB, unhide HFO⟩]; simp only [k2, k3, if_false]; rw [if_neg (by omega)])
            go_wp2_with fail
            exact ⟨⟨j + 1 + 1, by omega, by simp, ⟨_, _, _, rfl, rfl, HNX⟩, HB3⟩, by simp [intOf]; omega⟩
    · obtain rfl : n = k := by omega
      have kI : ¬ (n : Int) < (n : Int) := by omega
      have HE : Hid (sizeL l = some (fv, tv, lv)) := hide (by have := unhide HSZ; rw [List.take_of_length_le (by rw [unhide HN]; exact Nat.le_refl _)] at this; exact this)
      go_wp2_with fail
      go_ret3
      exact ⟨by unfold szVal; rw [unhide HE]; rfl, unhide HB⟩
end Go.Proofs.YtbnfilhilgjnfaaDoor.Ed

namespace Go.Proofs.YtbnfilhilgjnfaaDoor.Ed
set_option linter.unusedVariables false
set_option linter.unusedSimpArgs false
open Go.ChangeShapes Go.WideShapes Go.ChangeAt Go.RowKit Go.Joins Go.Deep

set_option maxRecDepth 100000 in
set_option maxHeartbeats 4000000 in
theorem rweight_any (a : Option Addr) (l : List Pt) (c : Nat) (w : World) (hp : PtsAt w a l) (hc : l.length ≤ 4000) (hs : ∀ p ∈ l, p.text.size ≤ 281474976710656) :
    Calls Tryd.prog 31 #[.slice a l.length c] w fun r w' => r = .returned (wVal l) ∧ Below w.heap.size w w' := by
  have HP := hide hp
  have HS := hide hs
  obtain ⟨n, hn⟩ : ∃ n, l.length = n := ⟨_, rfl⟩
  rw [hn] at hc ⊢
  have HN := hide hn
  have nI : (n : Int) ≤ 4000 := by omega
  clear hp hs hn
  go_enter Tryd.func31, Tryd.ntmps31
  go_wp2_with fail
  go_loopw [4, 5, 10] (fun f t i wr => ∃ k : Nat, k ≤ n ∧ i = .int .i64 (k : Int) ∧ (∃ fv tv : Int, f = .int .i64 fv ∧ t = .int .i64 tv ∧ 0 ≤ fv ∧ fv ≤ (k : Int) * 1099511627776 ∧ 0 ≤ tv ∧ tv ≤ (k : Int) * 1099511627776 ∧ Hid (wL (l.take k) = some (fv, tv))) ∧ Hid (Below w.heap.size w wr)) (fun _ _ i _ => ((n : Int) - intOf i).toNat)
  case atStart => exact ⟨0, by omega, by simp, ⟨0, 0, by simp, by simp, by omega, by simp, by omega, by simp, hide (by simp [wL])⟩, hide (Below.refl _ _)⟩
  case round =>
    obtain ⟨k, hk, rfl, ⟨fv, tv, rfl, rfl, b1, b2, b3, b4, HSZ⟩, HB⟩ := hrel
    by_cases hlt : k < n
    · have kI : (k : Int) < (n : Int) := by omega
      obtain ⟨p, hpk⟩ : ∃ p, l[k]? = some p := ⟨_, List.getElem?_eq_getElem (by have := unhide HN; omega)⟩
      obtain ⟨b, off, rfl, e0, e1, e2⟩ := (unhide HP).at_ (unhide HB) hpk
      have HST := hide (wL_take hpk)
      rw [unhide HSZ] at HST
      have hps := unhide HS p (List.mem_of_getElem? hpk)
      have hbA : Below wr.heap.size wr (wr.alloc (.cells #[.int .i64 p.kind, .int .i64 p.n, .string p.text] 44)) := (Below.refl _ _).alloc (Nat.le_refl _) _
      have HBA := hide ((unhide HB).trans (hbA.mono (unhide HB).size))
      have HRW := hide (RowAt.new wr 44 [.int .i64 p.kind, .int .i64 p.n, .string p.text])
      have HFI2 : Hid (Calls Tryd.prog 51 #[.agg #[.int .i64 p.kind, .int .i64 p.n, .string p.text]] (wr.alloc (.cells #[.int .i64 p.kind, .int .i64 p.n, .string p.text] 44)) fun r w' => r = .returned (.bool (fitsB p)) ∧ Below (wr.alloc (.cells #[.int .i64 p.kind, .int .i64 p.n, .string p.text] 44)).heap.size (wr.alloc (.cells #[.int .i64 p.kind, .int .i64 p.n, .string p.text] 44)) w') := hide (rfits_any p _ hps)
      clear hpk hps hbA
      go_wp2_with fail
      obtain ⟨wA, hA⟩ : ∃ wA, wr.alloc (.cells #[.int .i64 p.kind, .int .i64 p.n, .string p.text] 44) = wA := ⟨_, rfl⟩
      rw [hA] at HBA HRW HFI2 ⊢
      clear hA HB e0 e1 e2
      obtain ⟨bb, hbb⟩ : ∃ bb, wr.heap.size = bb := ⟨_, rfl⟩
      rw [hbb] at HRW ⊢
      clear hbb
      refine Calls.mono (unhide HFI2) ?_
      rintro r w3 ⟨rfl, hb2⟩
      have HB3 := hide ((unhide HBA).trans (hb2.mono (unhide HBA).size))
      have HR2 := hide ((unhide HRW).below hb2 (unhide HRW).lt)
      clear hb2 HBA HRW HFI2
      have r0 : w3.cell? ⟨bb, 0, none⟩ = some (.int .i64 p.kind) := (unhide HR2).cell 0
      have r1 : w3.cell? ⟨bb, 1, none⟩ = some (.int .i64 p.n) := (unhide HR2).cell 1
      cases hfb : fitsB p with
      | false =>
        have HNO : Hid (wL (l.take (k + 1)) = none) := hide (by rw [unhide HST]; simp [wStep, hfb])
        clear hfb
        go_wp2_with fail
        go_ret2
        have hz := wL_none (unhide HNO)
        exact ⟨by unfold wVal; rw [hz]; rfl, unhide HB3⟩
      | true =>
        obtain ⟨n1, n2⟩ := fits_bounds hfb
        have HFB := hide hfb
        clear hfb
        by_cases k2 : p.kind = 2
        · rw [k2] at r0
          have K2 := hide k2
          have HNX : Hid (wL (l.take (k + 1)) = some (fv + p.n, tv)) := hide (by rw [unhide HST]; simp only [wStep]; rw [if_pos (unhide HFB)]; simp only [unhide K2, if_true, show ((2 : Int) = 3) = False from by simp, if_false])
          go_wp2_with fail
          exact ⟨⟨k + 1, by omega, by simp, ⟨_, _, rfl, rfl, by omega, by push_cast; omega, by omega, by push_cast; omega, HNX⟩, HB3⟩, by simp [intOf]; omega⟩
        have k2b : (p.kind == 2) = false := by simp [k2]
        by_cases k3 : p.kind = 3
        · rw [k3] at r0
          have K3 := hide k3
          have HNX : Hid (wL (l.take (k + 1)) = some (fv, tv + p.n)) := hide (by rw [unhide HST]; simp only [wStep]; rw [if_pos (unhide HFB)]; simp only [unhide K3, if_true, show ((3 : Int) = 2) = False from by simp, if_false])
          go_wp2_with fail
          exact ⟨⟨k + 1, by omega, by simp, ⟨_, _, rfl, rfl, by omega, by push_cast; omega, by omega, by push_cast; omega, HNX⟩, HB3⟩, by simp [intOf]; omega⟩
        have k3b : (p.kind == 3) = false := by simp [k3]
        have HNX : Hid (wL (l.take (k + 1)) = some (fv, tv)) := hide (by rw [unhide HST]; simp only [wStep]; rw [if_pos (unhide HFB)]; simp only [k2, k3, if_false])
        go_wp2_with fail
        exact ⟨⟨k + 1, by omega, by simp, ⟨_, _, rfl, rfl, by omega, by push_cast; omega, by omega, by push_cast; omega, HNX⟩, HB3⟩, by simp [intOf]; omega⟩
    · obtain rfl : n = k := by omega
      have kI : ¬ (n : Int) < (n : Int) := by omega
      have HE : Hid (wL l = some (fv, tv)) := hide (by have := unhide HSZ; rw [List.take_of_length_le (by rw [unhide HN]; exact Nat.le_refl _)] at this; exact this)
      go_wp2_with fail
      go_ret2
      exact ⟨by unfold wVal; rw [unhide HE]; rfl, unhide HB⟩
end Go.Proofs.YtbnfilhilgjnfaaDoor.Ed

namespace Go.Proofs.YtbnfilhilgjnfaaDoor
set_option linter.unusedVariables false
set_option linter.unusedSimpArgs false
open Go.ChangeShapes Go.WideShapes Go.ChangeAt Go.RowKit Go.Joins

set_option maxRecDepth 100000 in
set_option maxHeartbeats 4000000 in
theorem rlight_any (a : Option Addr) (l : List Ed.Pt) (c : Nat) (w : World) (hp : Ed.PtsAt w a l) (hc : l.length ≤ 4000) (hs : ∀ p ∈ l, p.text.size ≤ 281474976710656) :
    Calls Tryd.prog 13 #[.slice a l.length c] w fun r w' => r = .returned (.bool (lightB l)) ∧ Below w.heap.size w w' := by
  obtain ⟨n, hn⟩ : ∃ n, l.length = n := ⟨_, rfl⟩
  have H1 := hide (Ed.rsize_any a l c w hp (by unfold maxLen; omega) hs)
  have H2 : Hid (∀ w1, Below w.heap.size w w1 → Calls Tryd.prog 31 #[.slice a l.length c] w1 fun r w' => r = .returned (Ed.wVal l) ∧ Below w1.heap.size w1 w') := hide (fun w1 hb => Ed.rweight_any a l c w1 (hp.call hb) hc hs)
  rw [hn] at H1 H2 hc ⊢
  have HN := hide hn
  clear hp hs hn
  go_enter Tryd.func13, Tryd.ntmps13
  go_wp2_with fail
  refine Calls.mono (unhide H1) ?_
  rintro e w1 ⟨rfl, b1⟩
  have H3 := hide (unhide H2 w1 b1)
  have HB1 := hide b1
  clear b1 H1 H2
  unfold Ed.szVal
  cases hsz : Ed.sizeL l with
  | none =>
    go_wp2_with fail
    refine Calls.mono (unhide H3) ?_
    rintro e w2 ⟨rfl, b2⟩
    have HB2 := hide ((unhide HB1).trans (b2.mono (unhide HB1).size))
    clear b2 H3
    unfold Ed.wVal
    cases hw : Ed.wL l with
    | none =>
      go_wp2_with fail
      go_ret
      exact ⟨by unfold lightB; rw [hsz]; simp, unhide HB2⟩
    | some q =>
      obtain ⟨p, d⟩ := q
      go_wp2_with fail
      go_ret
      exact ⟨by unfold lightB; rw [hsz]; simp, unhide HB2⟩
  | some q =>
    obtain ⟨f, t, kk⟩ := q
    go_wp2_with fail
    refine Calls.mono (unhide H3) ?_
    rintro e w2 ⟨rfl, b2⟩
    have HB2 := hide ((unhide HB1).trans (b2.mono (unhide HB1).size))
    clear b2 H3
    unfold Ed.wVal
    cases hw : Ed.wL l with
    | none =>
      by_cases h4 : n ≤ 400
      · have h4z : (n : Int) ≤ 400 := by omega
        have h4d : decide ((n : Int) ≤ 400) = true := by simpa using h4z
        go_wp2_with fail
        go_ret
        exact ⟨by have := unhide HN; unfold lightB putsP; rw [hsz, hw, this]; simp [h4], unhide HB2⟩
      · have h4z : ¬ (n : Int) ≤ 400 := by omega
        have h4d : decide ((n : Int) ≤ 400) = false := by simpa using h4z
        go_wp2_with fail
        go_ret
        exact ⟨by have := unhide HN; unfold lightB putsP; rw [hsz, hw, this]; simp [h4], unhide HB2⟩
    | some q =>
      obtain ⟨p, d⟩ := q
      by_cases h4 : n ≤ 400
      · have h4z : (n : Int) ≤ 400 := by omega
        have h4d : decide ((n : Int) ≤ 400) = true := by simpa using h4z
        go_wp2_with fail
        go_ret
        exact ⟨by have := unhide HN; unfold lightB putsP; rw [hsz, hw, this]; simp [h4], unhide HB2⟩
      · have h4z : ¬ (n : Int) ≤ 400 := by omega
        have h4d : decide ((n : Int) ≤ 400) = false := by simpa using h4z
        go_wp2_with fail
        go_ret
        exact ⟨by have := unhide HN; unfold lightB putsP; rw [hsz, hw, this]; simp [h4], unhide HB2⟩
/-- the fields of a kind, as letters -/
def ltr : Nat → List UInt8
  | 1 => [114]
  | 2 => [115, 114, 69]
  | 3 => [115, 114, 97, 110, 116]
  | 4 => [114, 97]
  | 6 => [101]
  | 7 => [114, 115]
  | 8 => [114, 119, 115, 69]
  | 9 => [115, 101]
  | 10 => [119, 114, 97]
  | _ => []
set_option maxRecDepth 100000 in
set_option maxHeartbeats 4000000 in
theorem letters_any (k : Nat) (w : World) (h1 : 1 ≤ k) (h2 : k ≤ 10) : Calls Tryd.prog 26 #[.int .i64 (k : Int)] w fun r w' => r = .returned (.string ⟨(ltr k).toArray⟩) ∧ w = w' := by
  have : k = 1 ∨ k = 2 ∨ k = 3 ∨ k = 4 ∨ k = 5 ∨ k = 6 ∨ k = 7 ∨ k = 8 ∨ k = 9 ∨ k = 10 := by omega
  rcases this with rfl | rfl | rfl | rfl | rfl | rfl | rfl | rfl | rfl | rfl <;>
  · go_enter Tryd.func26, Tryd.ntmps26
    go_wp2_with fail
    go_ret
    exact ⟨rfl, rfl⟩
def hasB (l : List UInt8) (x : Nat) : Bool := l.any (fun y => y.toNat == x)
theorem hasB_none {l : List UInt8} {x j : Nat} (h : ∀ i, i < j → (l.getD i 0).toNat ≠ x) (hj : j = l.length) : hasB l x = false := by
  unfold hasB
  rw [List.any_eq_false]
  intro y hy
  obtain ⟨i, hi⟩ := List.getElem?_of_mem hy
  have hlt : i < l.length := by
    rcases Nat.lt_or_ge i l.length with h | h
    · exact h
    · rw [List.getElem?_eq_none h] at hi; cases hi
  have := h i (by omega)
  rw [List.getD_eq_getElem?_getD, hi] at this
  simpa using this
theorem hasB_some {l : List UInt8} {x j : Nat} (hj : j < l.length) (h : (l.getD j 0).toNat = x) : hasB l x = true := by
  unfold hasB
  rw [List.any_eq_true]
  refine ⟨l[j], List.getElem_mem hj, ?_⟩
  rw [List.getD_eq_getElem?_getD, List.getElem?_eq_getElem hj] at h
  simpa using h
set_option maxRecDepth 100000 in
set_option maxHeartbeats 4000000 in
theorem has_any (l : List UInt8) (x : Nat) (w : World) (hl : l.length ≤ 1000) (hx : x < 256) : Calls Tryd.prog 27 #[.string ⟨l.toArray⟩, .int .u8 (x : Int)] w fun r w' => r = .returned (.bool (hasB l x)) ∧ w = w' := by
  obtain ⟨n, hn⟩ : ∃ n, l.length = n := ⟨_, rfl⟩
  have hsz : (⟨l.toArray⟩ : ByteArray).size = n := by rw [← hn]; rfl
  obtain ⟨s, hs⟩ : ∃ s, (⟨l.toArray⟩ : ByteArray) = s := ⟨_, rfl⟩
  have HG : Hid (∀ i (hi : i < s.size), s[i]'hi = l.getD i 0) := hide (by
    subst hs
    intro i hi
    have hi' : i < l.length := hi
    rw [List.getD_eq_getElem?_getD, List.getElem?_eq_getElem hi']
    rfl)
  rw [hs] at hsz ⊢
  have HN := hide hn
  have nI : n ≤ 1000 := by omega
  clear hn hs
  go_enter Tryd.func27, Tryd.ntmps27
  go_wp2_with fail
  go_loopw [8] (fun i wr => ∃ j : Nat, j ≤ n ∧ i = .int .i64 (j : Int) ∧ w = wr ∧ Hid (∀ i, i < j → (l.getD i 0).toNat ≠ x)) (fun i _ => ((n : Int) - intOf i).toNat)
  case atStart => exact ⟨0, by omega, by simp, rfl, hide (fun i hi => by omega)⟩
  case round =>
    obtain ⟨j, hj, rfl, rfl, HI⟩ := hrel
    by_cases hlt : j < n
    · have jI : (j : Int) < (s.size : Int) := by omega
      have jN : j < s.size := by omega
      obtain ⟨y, hy⟩ : ∃ y, s[j]'jN = y := ⟨_, rfl⟩
      have HY : Hid ((l.getD j 0).toNat = y.toNat) := hide (by rw [← unhide HG j jN, hy])
      by_cases hxy : y.toNat = x
      · have hb : ((y.toNat : Int) == (x : Int)) = true := by simp [hxy]
        have HE : Hid (hasB l x = true) := hide (hasB_some (j := j) (by rw [unhide HN]; exact hlt) (by rw [unhide HY]; exact hxy))
        go_wp2_with fail
        go_ret
        exact ⟨by rw [unhide HE]; rfl, rfl⟩
      · have hb : ((y.toNat : Int) == (x : Int)) = false := by simpa using (fun h => hxy (by omega))
        have HXY := hide hxy
        clear hxy
        go_wp2_with fail
        go_roundw
        case rel => exact ⟨j + 1, by omega, by go_num, by first | trivial | rfl, hide (fun i hi => by
          by_cases h : i = j
          · subst h; rw [unhide HY]; exact unhide HXY
          · exact unhide HI i (by omega))⟩
        case measure => simp [intOf]; omega
    · obtain rfl : n = j := by omega
      have jI : ¬ (n : Int) < (s.size : Int) := by omega
      have HE : Hid (hasB l x = false) := hide (hasB_none (unhide HI) (unhide HN).symm)
      go_wp2_with fail
      go_ret
      exact ⟨by rw [unhide HE]; rfl, rfl⟩
end Go.Proofs.YtbnfilhilgjnfaaDoor

namespace Go.Proofs.YtbnfilhilgjnfaaDoor
set_option linter.unusedVariables false
set_option linter.unusedSimpArgs false
open Go.ChangeShapes Go.WideShapes Go.ChangeAt Go.RowKit Go.Joins

def letL : List Nat := [119, 115, 114, 97, 110, 116, 101]
theorem has_bit : ∀ k, k < 11 → ∀ j, j < 7 → hasB (ltr k) (letL.getD j 0) = (fieldsL.getD k 0 / 2 ^ j % 2 == 1) := by decide +kernel
theorem has_e : ∀ k, k < 11 → hasB (ltr k) 69 = hasE k := by decide +kernel
theorem ltr_len : ∀ k, k < 11 → (ltr k).length ≤ 1000 := by decide +kernel
theorem lightB_nil : lightB [] = true := rfl
set_option maxRecDepth 100000 in
set_option maxHeartbeats 8000000 in
theorem rcheck_any (k x0 x1 x2 x3 x4 x5 x6 : Int) (a : Option Addr) (l : List Ed.Pt) (c : Nat) (w : World) (hp : Ed.PtsAt w a l) (hc : l.length ≤ 4000) (hs : ∀ p ∈ l, p.text.size ≤ 281474976710656) :
    Calls Tryd.prog 11 #[msgV k x0 x1 x2 x3 x4 x5 x6 (.slice a l.length c)] w fun e w' => CkR k (nsF x0 x1 x2 x3 x4 x5 x6) l w e w' := by
  obtain ⟨n, hn⟩ : ∃ n, l.length = n := ⟨_, rfl⟩
  have HL : Hid (∀ w1, Below w.heap.size w w1 → Calls Tryd.prog 13 #[.slice a l.length c] w1 fun r w' => r = .returned (.bool (lightB l)) ∧ Below w1.heap.size w1 w') := hide (fun w1 hb => rlight_any a l c w1 (hp.call hb) hc hs)
  rw [hn] at HL ⊢
  have HN := hide hn
  clear hp hs hn hc
  have b1 : Below w.heap.size w (w.alloc (.cells #[.int .i64 k, .int .i64 x0, .int .i64 x1, .int .i64 x2, .int .i64 x3, .int .i64 x4, .int .i64 x5, .int .i64 x6, .slice a n c] 25)) := (Below.refl _ _).alloc (Nat.le_refl _) _
  have HR := hide (RowAt.new w 25 [.int .i64 k, .int .i64 x0, .int .i64 x1, .int .i64 x2, .int .i64 x3, .int .i64 x4, .int .i64 x5, .int .i64 x6, .slice a n c])
  have HB1 := hide b1
  unfold msgV
  clear b1
  by_cases hk1 : k < 1
  · have HNO : Hid (¬ MsgOk k (nsF x0 x1 x2 x3 x4 x5 x6) l) := hide (fun h => by have := h.1; omega)
    have c0 : (w.alloc (.cells #[.int .i64 k, .int .i64 x0, .int .i64 x1, .int .i64 x2, .int .i64 x3, .int .i64 x4, .int .i64 x5, .int .i64 x6, .slice a n c] 25)).cell? ⟨w.heap.size, 0, none⟩ = some (.int .i64 k) := (unhide HR).cell 0
    have c1 : (w.alloc (.cells #[.int .i64 k, .int .i64 x0, .int .i64 x1, .int .i64 x2, .int .i64 x3, .int .i64 x4, .int .i64 x5, .int .i64 x6, .slice a n c] 25)).cell? ⟨w.heap.size, 1, none⟩ = some (.int .i64 x0) := (unhide HR).cell 1
    have c2 : (w.alloc (.cells #[.int .i64 k, .int .i64 x0, .int .i64 x1, .int .i64 x2, .int .i64 x3, .int .i64 x4, .int .i64 x5, .int .i64 x6, .slice a n c] 25)).cell? ⟨w.heap.size, 2, none⟩ = some (.int .i64 x1) := (unhide HR).cell 2
    have c3 : (w.alloc (.cells #[.int .i64 k, .int .i64 x0, .int .i64 x1, .int .i64 x2, .int .i64 x3, .int .i64 x4, .int .i64 x5, .int .i64 x6, .slice a n c] 25)).cell? ⟨w.heap.size, 3, none⟩ = some (.int .i64 x2) := (unhide HR).cell 3
    have c4 : (w.alloc (.cells #[.int .i64 k, .int .i64 x0, .int .i64 x1, .int .i64 x2, .int .i64 x3, .int .i64 x4, .int .i64 x5, .int .i64 x6, .slice a n c] 25)).cell? ⟨w.heap.size, 4, none⟩ = some (.int .i64 x3) := (unhide HR).cell 4
    have c5 : (w.alloc (.cells #[.int .i64 k, .int .i64 x0, .int .i64 x1, .int .i64 x2, .int .i64 x3, .int .i64 x4, .int .i64 x5, .int .i64 x6, .slice a n c] 25)).cell? ⟨w.heap.size, 5, none⟩ = some (.int .i64 x4) := (unhide HR).cell 5
    have c6 : (w.alloc (.cells #[.int .i64 k, .int .i64 x0, .int .i64 x1, .int .i64 x2, .int .i64 x3, .int .i64 x4, .int .i64 x5, .int .i64 x6, .slice a n c] 25)).cell? ⟨w.heap.size, 6, none⟩ = some (.int .i64 x5) := (unhide HR).cell 6
    have c7 : (w.alloc (.cells #[.int .i64 k, .int .i64 x0, .int .i64 x1, .int .i64 x2, .int .i64 x3, .int .i64 x4, .int .i64 x5, .int .i64 x6, .slice a n c] 25)).cell? ⟨w.heap.size, 7, none⟩ = some (.int .i64 x6) := (unhide HR).cell 7
    have c8 : (w.alloc (.cells #[.int .i64 k, .int .i64 x0, .int .i64 x1, .int .i64 x2, .int .i64 x3, .int .i64 x4, .int .i64 x5, .int .i64 x6, .slice a n c] 25)).cell? ⟨w.heap.size, 8, none⟩ = some (.slice a n c) := (unhide HR).cell 8
    go_enter Tryd.func11, Tryd.ntmps11
    go_wp2_with fail
    go_ret
    exact CkR.no (unhide HNO) (unhide HB1)
  have hk1d : decide (k < 1) = false := by simpa using hk1
  by_cases hk2 : 10 < k
  · have HNO : Hid (¬ MsgOk k (nsF x0 x1 x2 x3 x4 x5 x6) l) := hide (fun h => by have := h.2.1; omega)
    have c0 : (w.alloc (.cells #[.int .i64 k, .int .i64 x0, .int .i64 x1, .int .i64 x2, .int .i64 x3, .int .i64 x4, .int .i64 x5, .int .i64 x6, .slice a n c] 25)).cell? ⟨w.heap.size, 0, none⟩ = some (.int .i64 k) := (unhide HR).cell 0
    have c1 : (w.alloc (.cells #[.int .i64 k, .int .i64 x0, .int .i64 x1, .int .i64 x2, .int .i64 x3, .int .i64 x4, .int .i64 x5, .int .i64 x6, .slice a n c] 25)).cell? ⟨w.heap.size, 1, none⟩ = some (.int .i64 x0) := (unhide HR).cell 1
    have c2 : (w.alloc (.cells #[.int .i64 k, .int .i64 x0, .int .i64 x1, .int .i64 x2, .int .i64 x3, .int .i64 x4, .int .i64 x5, .int .i64 x6, .slice a n c] 25)).cell? ⟨w.heap.size, 2, none⟩ = some (.int .i64 x1) := (unhide HR).cell 2
    have c3 : (w.alloc (.cells #[.int .i64 k, .int .i64 x0, .int .i64 x1, .int .i64 x2, .int .i64 x3, .int .i64 x4, .int .i64 x5, .int .i64 x6, .slice a n c] 25)).cell? ⟨w.heap.size, 3, none⟩ = some (.int .i64 x2) := (unhide HR).cell 3
    have c4 : (w.alloc (.cells #[.int .i64 k, .int .i64 x0, .int .i64 x1, .int .i64 x2, .int .i64 x3, .int .i64 x4, .int .i64 x5, .int .i64 x6, .slice a n c] 25)).cell? ⟨w.heap.size, 4, none⟩ = some (.int .i64 x3) := (unhide HR).cell 4
    have c5 : (w.alloc (.cells #[.int .i64 k, .int .i64 x0, .int .i64 x1, .int .i64 x2, .int .i64 x3, .int .i64 x4, .int .i64 x5, .int .i64 x6, .slice a n c] 25)).cell? ⟨w.heap.size, 5, none⟩ = some (.int .i64 x4) := (unhide HR).cell 5
    have c6 : (w.alloc (.cells #[.int .i64 k, .int .i64 x0, .int .i64 x1, .int .i64 x2, .int .i64 x3, .int .i64 x4, .int .i64 x5, .int .i64 x6, .slice a n c] 25)).cell? ⟨w.heap.size, 6, none⟩ = some (.int .i64 x5) := (unhide HR).cell 6
    have c7 : (w.alloc (.cells #[.int .i64 k, .int .i64 x0, .int .i64 x1, .int .i64 x2, .int .i64 x3, .int .i64 x4, .int .i64 x5, .int .i64 x6, .slice a n c] 25)).cell? ⟨w.heap.size, 7, none⟩ = some (.int .i64 x6) := (unhide HR).cell 7
    have c8 : (w.alloc (.cells #[.int .i64 k, .int .i64 x0, .int .i64 x1, .int .i64 x2, .int .i64 x3, .int .i64 x4, .int .i64 x5, .int .i64 x6, .slice a n c] 25)).cell? ⟨w.heap.size, 8, none⟩ = some (.slice a n c) := (unhide HR).cell 8
    go_enter Tryd.func11, Tryd.ntmps11
    go_wp2_with fail
    go_ret
    exact CkR.no (unhide HNO) (unhide HB1)
  have hk2d : decide (10 < k) = false := by simpa using hk2
  obtain ⟨kn, rfl⟩ : ∃ kn : Nat, k = (kn : Int) := ⟨k.toNat, by omega⟩
  have c0 : (w.alloc (.cells #[.int .i64 (kn : Int), .int .i64 x0, .int .i64 x1, .int .i64 x2, .int .i64 x3, .int .i64 x4, .int .i64 x5, .int .i64 x6, .slice a n c] 25)).cell? ⟨w.heap.size, 0, none⟩ = some (.int .i64 (kn : Int)) := (unhide HR).cell 0
  have c1 : (w.alloc (.cells #[.int .i64 (kn : Int), .int .i64 x0, .int .i64 x1, .int .i64 x2, .int .i64 x3, .int .i64 x4, .int .i64 x5, .int .i64 x6, .slice a n c] 25)).cell? ⟨w.heap.size, 1, none⟩ = some (.int .i64 x0) := (unhide HR).cell 1
  have c2 : (w.alloc (.cells #[.int .i64 (kn : Int), .int .i64 x0, .int .i64 x1, .int .i64 x2, .int .i64 x3, .int .i64 x4, .int .i64 x5, .int .i64 x6, .slice a n c] 25)).cell? ⟨w.heap.size, 2, none⟩ = some (.int .i64 x1) := (unhide HR).cell 2
  have c3 : (w.alloc (.cells #[.int .i64 (kn : Int), .int .i64 x0, .int .i64 x1, .int .i64 x2, .int .i64 x3, .int .i64 x4, .int .i64 x5, .int .i64 x6, .slice a n c] 25)).cell? ⟨w.heap.size, 3, none⟩ = some (.int .i64 x2) := (unhide HR).cell 3
  have c4 : (w.alloc (.cells #[.int .i64 (kn : Int), .int .i64 x0, .int .i64 x1, .int .i64 x2, .int .i64 x3, .int .i64 x4, .int .i64 x5, .int .i64 x6, .slice a n c] 25)).cell? ⟨w.heap.size, 4, none⟩ = some (.int .i64 x3) := (unhide HR).cell 4
  have c5 : (w.alloc (.cells #[.int .i64 (kn : Int), .int .i64 x0, .int .i64 x1, .int .i64 x2, .int .i64 x3, .int .i64 x4, .int .i64 x5, .int .i64 x6, .slice a n c] 25)).cell? ⟨w.heap.size, 5, none⟩ = some (.int .i64 x4) := (unhide HR).cell 5
  have c6 : (w.alloc (.cells #[.int .i64 (kn : Int), .int .i64 x0, .int .i64 x1, .int .i64 x2, .int .i64 x3, .int .i64 x4, .int .i64 x5, .int .i64 x6, .slice a n c] 25)).cell? ⟨w.heap.size, 6, none⟩ = some (.int .i64 x5) := (unhide HR).cell 6
  have c7 : (w.alloc (.cells #[.int .i64 (kn : Int), .int .i64 x0, .int .i64 x1, .int .i64 x2, .int .i64 x3, .int .i64 x4, .int .i64 x5, .int .i64 x6, .slice a n c] 25)).cell? ⟨w.heap.size, 7, none⟩ = some (.int .i64 x6) := (unhide HR).cell 7
  have c8 : (w.alloc (.cells #[.int .i64 (kn : Int), .int .i64 x0, .int .i64 x1, .int .i64 x2, .int .i64 x3, .int .i64 x4, .int .i64 x5, .int .i64 x6, .slice a n c] 25)).cell? ⟨w.heap.size, 8, none⟩ = some (.slice a n c) := (unhide HR).cell 8
  have kz1 : ¬ ((kn : Int) < 1) := by omega
  have kz2 : ¬ ((10 : Int) < (kn : Int)) := by omega
  have hkn1 : 1 ≤ kn := by omega
  have hkn2 : kn ≤ 10 := by omega
  go_enter Tryd.func11, Tryd.ntmps11
  go_wp2_with fail
  generalize w.alloc (.cells #[.int .i64 (kn : Int), .int .i64 x0, .int .i64 x1, .int .i64 x2, .int .i64 x3, .int .i64 x4, .int .i64 x5, .int .i64 x6, .slice a n c] 25) = w1 at *
  refine Calls.mono (letters_any kn w1 hkn1 hkn2) ?_
  rintro e wq ⟨rfl, rfl⟩
  obtain ⟨ls, hls⟩ : ∃ ls, (⟨(ltr kn).toArray⟩ : ByteArray) = ls := ⟨_, rfl⟩
  have HHS : Hid (∀ x W, x < 256 → Calls Tryd.prog 27 #[.string ls, .int .u8 ((x : Nat) : Int)] W fun r w' => r = .returned (.bool (hasB (ltr kn) x)) ∧ W = w') := hide (fun x W hx => by rw [← hls]; exact has_any (ltr kn) x W (ltr_len kn (by omega)) hx)
  rw [hls]
  clear hls
  have b2 : Below w1.heap.size w1 (w1.alloc (.cells #[.int .i64 x0, .int .i64 x1, .int .i64 x2, .int .i64 x3, .int .i64 x4, .int .i64 x5, .int .i64 x6] 3)) := (Below.refl _ _).alloc (Nat.le_refl _) _
  have R2 := RowAt.new w1 3 [.int .i64 x0, .int .i64 x1, .int .i64 x2, .int .i64 x3, .int .i64 x4, .int .i64 x5, .int .i64 x6]
  obtain ⟨w2, hw2⟩ : ∃ w2, w1.alloc (.cells #[.int .i64 x0, .int .i64 x1, .int .i64 x2, .int .i64 x3, .int .i64 x4, .int .i64 x5, .int .i64 x6] 3) = w2 := ⟨_, rfl⟩
  rw [hw2] at b2 R2
  have b3 : Below w2.heap.size w2 (w2.alloc (.cells #[.int .i64 7, .int .i64 1099511627776, .int .i64 1099511627776, .int .i64 1099511627776, .int .i64 1099511627776, .int .i64 31, .int .i64 1000] 3)) := (Below.refl _ _).alloc (Nat.le_refl _) _
  have R3 := RowAt.new w2 3 [.int .i64 7, .int .i64 1099511627776, .int .i64 1099511627776, .int .i64 1099511627776, .int .i64 1099511627776, .int .i64 31, .int .i64 1000]
  obtain ⟨w3, hw3⟩ : ∃ w3, w2.alloc (.cells #[.int .i64 7, .int .i64 1099511627776, .int .i64 1099511627776, .int .i64 1099511627776, .int .i64 1099511627776, .int .i64 31, .int .i64 1000] 3) = w3 := ⟨_, rfl⟩
  rw [hw3] at b3 R3
  have b4 : Below w3.heap.size w3 (w3.alloc (.cells #[.int .u8 119, .int .u8 115, .int .u8 114, .int .u8 97, .int .u8 110, .int .u8 116, .int .u8 101] 5)) := (Below.refl _ _).alloc (Nat.le_refl _) _
  have R4 := RowAt.new w3 5 [.int .u8 119, .int .u8 115, .int .u8 114, .int .u8 97, .int .u8 110, .int .u8 116, .int .u8 101]
  obtain ⟨w4, hw4⟩ : ∃ w4, w3.alloc (.cells #[.int .u8 119, .int .u8 115, .int .u8 114, .int .u8 97, .int .u8 110, .int .u8 116, .int .u8 101] 5) = w4 := ⟨_, rfl⟩
  rw [hw4] at b4 R4
  obtain ⟨gN, hgN⟩ : ∃ g, w1.heap.size = g := ⟨_, rfl⟩
  have hgM : w2.heap.size = gN + 1 := by rw [← hw2, ← hgN]; simp
  have hgC : w3.heap.size = gN + 1 + 1 := by rw [← hw3, ← hgM]; simp
  have HB4 : Hid (Below w.heap.size w w4) := hide ((unhide HB1).trans ((b2.trans ((b3.trans (b4.mono b3.size)).mono b2.size)).mono (unhide HB1).size))
  have HR4 : Hid (RowAt w4 w.heap.size 25 [.int .i64 (kn : Int), .int .i64 x0, .int .i64 x1, .int .i64 x2, .int .i64 x3, .int .i64 x4, .int .i64 x5, .int .i64 x6, .slice a n c]) := hide ((unhide HR).below ((b2.trans ((b3.trans (b4.mono b3.size)).mono b2.size))) (unhide HR).lt)
  have RN := R2.below (b3.trans (b4.mono b3.size)) R2.lt
  have RM := R3.below b4 R3.lt
  rw [hgN] at RN
  rw [hgM] at RM
  rw [hgC] at R4
  have HCN : Hid (∀ W j, Below w4.heap.size w4 W → j < 7 → W.cell? ⟨gN, j, none⟩ = some (.int .i64 (nsF x0 x1 x2 x3 x4 x5 x6 j))) := hide (fun W j hb hj => by
    have R := RN.below hb RN.lt
    have : j = 0 ∨ j = 1 ∨ j = 2 ∨ j = 3 ∨ j = 4 ∨ j = 5 ∨ j = 6 := by omega
    rcases this with rfl | rfl | rfl | rfl | rfl | rfl | rfl
    · exact R.cell 0
    · exact R.cell 1
    · exact R.cell 2
    · exact R.cell 3
    · exact R.cell 4
    · exact R.cell 5
    · exact R.cell 6)
  have HCM : Hid (∀ W j, Below w4.heap.size w4 W → j < 7 → W.cell? ⟨gN + 1, j, none⟩ = some (.int .i64 ((mostL.getD j 0 : Nat) : Int))) := hide (fun W j hb hj => by
    have R := RM.below hb RM.lt
    have : j = 0 ∨ j = 1 ∨ j = 2 ∨ j = 3 ∨ j = 4 ∨ j = 5 ∨ j = 6 := by omega
    rcases this with rfl | rfl | rfl | rfl | rfl | rfl | rfl
    · exact R.cell 0
    · exact R.cell 1
    · exact R.cell 2
    · exact R.cell 3
    · exact R.cell 4
    · exact R.cell 5
    · exact R.cell 6)
  have HCC : Hid (∀ W j, Below w4.heap.size w4 W → j < 7 → W.cell? ⟨gN + 1 + 1, j, none⟩ = some (.int .u8 ((letL.getD j 0 : Nat) : Int))) := hide (fun W j hb hj => by
    have R := R4.below hb R4.lt
    have : j = 0 ∨ j = 1 ∨ j = 2 ∨ j = 3 ∨ j = 4 ∨ j = 5 ∨ j = 6 := by omega
    rcases this with rfl | rfl | rfl | rfl | rfl | rfl | rfl
    · exact R.cell 0
    · exact R.cell 1
    · exact R.cell 2
    · exact R.cell 3
    · exact R.cell 4
    · exact R.cell 5
    · exact R.cell 6)
  clear RN RM R2 R3 R4 b2 b3 b4
  have e2 := hw2
  have e3 := hw3
  have e4 := hw4
  clear hw2 hw3 hw4
  have HE2 := hide e2
  have HE3 := hide e3
  have HE4 := hide e4
  have HGN := hide hgN
  have HGM := hide hgM
  have HGC := hide hgC
  clear e2 e3 e4 hgN hgM hgC
  go_wp2_with fail
  simp only [unhide HE2, unhide HGN]
  simp only [unhide HE3]
  simp only [unhide HE4]
  clear c0 c1 c2 c3 c4 c5 c6 c7 c8
  go_loopw [37] (fun s wr => ∃ j : Nat, j ≤ 7 ∧ s = .int .i64 (j : Int) ∧ Hid (Below w4.heap.size w4 wr) ∧ Hid (∀ i, i < j → 0 ≤ nsF x0 x1 x2 x3 x4 x5 x6 i ∧ nsF x0 x1 x2 x3 x4 x5 x6 i ≤ limN kn i)) (fun s _ => (7 - intOf s).toNat)
  case atStart => exact ⟨0, by omega, rfl, hide (Below.refl _ _), hide (fun i hi => by omega)⟩
  case round =>
    obtain ⟨j, hj, rfl, HBW, HI⟩ := hrel
    by_cases hlt : j < 7
    · have hjI : (j : Int) < 7 := by omega
      have hj0 : (0 : Int) ≤ (j : Int) := by omega
      obtain ⟨x, hx⟩ : ∃ x, nsF x0 x1 x2 x3 x4 x5 x6 j = x := ⟨_, rfl⟩
      obtain ⟨mj, hmj⟩ : ∃ m, mostL.getD j 0 = m := ⟨_, rfl⟩
      obtain ⟨cj, hcj⟩ : ∃ m, letL.getD j 0 = m := ⟨_, rfl⟩
      have hcl : cj < 256 := by
        have : ∀ j, j < 7 → letL.getD j 0 < 256 := by decide
        rw [← hcj]; exact this j hlt
      have HBQ : Hid (∀ nq, Below w.heap.size w (wr.drewN nq)) := hide (fun nq => ((unhide HB4).trans ((unhide HBW).mono (unhide HB4).size)).trans ((Joins.below_draws _ _ nq).mono (Nat.le_trans (unhide HB4).size (unhide HBW).size)))
      have HBN : Hid (∀ nq, Below w4.heap.size w4 (wr.drewN nq)) := hide (fun nq => (unhide HBW).trans ((Joins.below_draws _ _ nq).mono (unhide HBW).size))
      have k0 := unhide HCN wr j (unhide HBW) hlt
      have k1 := unhide HCM wr j (unhide HBW) hlt
      have k2 := unhide HCC wr j (unhide HBW) hlt
      rw [hx] at k0
      rw [hmj] at k1
      rw [hcj] at k2
      have HLM : Hid (limN kn j = if hasB (ltr kn) cj = true then (mj : Int) else 0) := hide (by
        unfold limN
        rw [← hcj, has_bit kn (by omega) j hlt, hmj]
        simp)
      have HX := hide hx
      obtain ⟨hb, hhb⟩ : ∃ hb, hasB (ltr kn) cj = hb := ⟨_, rfl⟩
      have HQ : Hid (∀ q, Calls Tryd.prog 27 #[.string ls, .int .u8 (cj : Int)] (wr.drewN q) fun r w' => r = .returned (.bool hb) ∧ w' = wr.drewN q) := hide (fun q => by rw [← hhb]; exact Calls.mono (unhide HHS cj _ hcl) (fun _ _ h => ⟨h.1, h.2.symm⟩))
      rw [hhb] at HLM
      have HS : Hid ((mj : Int) ≤ 1099511627776) := hide (by
        have : ∀ j, j < 7 → mostL.getD j 0 ≤ 1099511627776 := by decide
        have := this j hlt; omega)
      clear hmj hcj hx hhb hcl
      by_cases hx0 : x < 0
      · have HNO : Hid (¬ MsgOk (kn : Int) (nsF x0 x1 x2 x3 x4 x5 x6) l) := hide (fun h => by have := (h.2.2.1 j hlt).1; rw [unhide HX] at this; omega)
        have hx0d : decide (x < 0) = true := by simpa using hx0
        go_wp2_with fail
        go_quiet (first | (go_at_call 27; exact Calls.quiet_of_same (unhide HQ _)))
        go_wp2_with fail
        go_ret
        exact CkR.no (unhide HNO) (unhide HBQ nq)
      have hx0d : decide (x < 0) = false := by simpa using hx0
      have hx0n : 0 ≤ x := by omega
      by_cases hx1 : (mj : Int) < x
      · have HNO : Hid (¬ MsgOk (kn : Int) (nsF x0 x1 x2 x3 x4 x5 x6) l) := hide (fun h => by have := (h.2.2.1 j hlt).2; rw [Int.toNat_natCast, unhide HX, unhide HLM] at this; split at this <;> omega)
        have hx1d : decide ((mj : Int) < x) = true := by simpa using hx1
        go_wp2_with fail
        go_quiet (first | (go_at_call 27; exact Calls.quiet_of_same (unhide HQ _)))
        go_wp2_with fail
        go_ret
        exact CkR.no (unhide HNO) (unhide HBQ nq)
      have hx1d : decide ((mj : Int) < x) = false := by simpa using hx1
      have hx1n : x ≤ (mj : Int) := by omega
      cases hb with
      | true =>
        have HOK : Hid (0 ≤ nsF x0 x1 x2 x3 x4 x5 x6 j ∧ nsF x0 x1 x2 x3 x4 x5 x6 j ≤ limN kn j) := hide (by rw [unhide HX, unhide HLM, if_pos rfl]; omega)
        go_wp2_with fail
        go_quiet (first | (go_at_call 27; exact Calls.quiet_of_same (unhide HQ _)))
        go_wp2_with fail
        go_roundw
        case rel => exact ⟨j + 1, by omega, by go_num, hide (unhide HBN nq), hide (fun i hi => by
          by_cases h : i = j
          · subst h; exact unhide HOK
          · exact unhide HI i (by omega))⟩
        case measure => simp [intOf]; omega
      | false =>
        by_cases xz : x = 0
        · have HOK : Hid (0 ≤ nsF x0 x1 x2 x3 x4 x5 x6 j ∧ nsF x0 x1 x2 x3 x4 x5 x6 j ≤ limN kn j) := hide (by rw [unhide HX, unhide HLM, if_neg (by simp)]; omega)
          have xzb : (x != 0) = false := by simp [xz]
          go_wp2_with fail
          go_quiet (first | (go_at_call 27; exact Calls.quiet_of_same (unhide HQ _)))
          go_wp2_with fail
          go_roundw
          case rel => exact ⟨j + 1, by omega, by go_num, hide (unhide HBN nq), hide (fun i hi => by
            by_cases h : i = j
            · subst h; exact unhide HOK
            · exact unhide HI i (by omega))⟩
          case measure => simp [intOf]; omega
        · have HNO : Hid (¬ MsgOk (kn : Int) (nsF x0 x1 x2 x3 x4 x5 x6) l) := hide (fun h => by have := (h.2.2.1 j hlt).2; rw [Int.toNat_natCast, unhide HX, unhide HLM, if_neg (by simp)] at this; omega)
          have xzb : (x != 0) = true := by simp [xz]
          go_wp2_with fail
          go_quiet (first | (go_at_call 27; exact Calls.quiet_of_same (unhide HQ _)))
          go_wp2_with fail
          go_ret
          exact CkR.no (unhide HNO) (unhide HBQ nq)
    · obtain rfl : j = 7 := by omega
      have hjI : ¬ ((7 : Nat) : Int) < 7 := by omega
      have HBX : Hid (Below w.heap.size w wr) := hide ((unhide HB4).trans ((unhide HBW).mono (unhide HB4).size))
      have HRW := hide ((unhide HR4).below (unhide HBW) (unhide HR4).lt)
      have d8 : wr.cell? ⟨w.heap.size, 8, none⟩ = some (.slice a n c) := (unhide HRW).cell 8
      have HHE := has_e kn (by omega)
      have HH1 := hide (unhide HHS 69 wr (by omega))
      rw [HHE] at HH1
      cases he : hasE kn with
      | true =>
        rw [he] at HH1
        have HEE := hide he
        clear he HHE
        go_wp2_with fail
        refine Calls.mono (unhide HH1) ?_
        rintro e wq ⟨rfl, rfl⟩
        go_wp2_with fail
        refine Calls.mono (unhide HL wr (unhide HBX)) ?_
        rintro e w5 ⟨rfl, b5⟩
        have HB5 := hide ((unhide HBX).trans (b5.mono (unhide HBX).size))
        have HH5 := hide (unhide HHS 69 w5 (by omega))
        rw [has_e kn (by omega), unhide HEE] at HH5
        clear b5 d8
        cases hlb : lightB l with
        | false =>
          have HNO : Hid (¬ MsgOk (kn : Int) (nsF x0 x1 x2 x3 x4 x5 x6) l) := hide (fun h => by have := h.2.2.2.2; rw [hlb] at this; cases this)
          go_wp2_with fail
          go_ret
          exact CkR.no (unhide HNO) (unhide HB5)
        | true =>
          have HYE : Hid (MsgOk (kn : Int) (nsF x0 x1 x2 x3 x4 x5 x6) l) := hide ⟨by omega, by omega, fun i hi => by rw [Int.toNat_natCast]; exact unhide HI i hi, .inl (by rw [Int.toNat_natCast]; exact unhide HEE), hlb⟩
          go_wp2_with fail
          refine Calls.mono (unhide HH5) ?_
          rintro e wq ⟨rfl, rfl⟩
          go_wp2_with fail
          go_ret
          exact CkR.yes (unhide HYE) (unhide HB5)
      | false =>
        rw [he] at HH1
        have HEE := hide he
        clear he HHE
        by_cases h0 : n = 0
        · subst h0
          have HLN : Hid (l = []) := hide (List.eq_nil_of_length_eq_zero (unhide HN))
          have HYE : Hid (MsgOk (kn : Int) (nsF x0 x1 x2 x3 x4 x5 x6) l) := hide ⟨by omega, by omega, fun i hi => by rw [Int.toNat_natCast]; exact unhide HI i hi, .inr (unhide HN), by rw [unhide HLN]; exact lightB_nil⟩
          have nz : ¬ (0 : Int) < ((0 : Nat) : Int) := by omega
          go_wp2_with fail
          refine Calls.mono (unhide HH1) ?_
          rintro e wq ⟨rfl, rfl⟩
          go_wp2_with fail
          refine Calls.mono (unhide HH1) ?_
          rintro e wq ⟨rfl, rfl⟩
          go_wp2_with fail
          go_ret
          exact CkR.yes (unhide HYE) (unhide HBX)
        · have nz : (0 : Int) < (n : Int) := by omega
          have HNO : Hid (¬ MsgOk (kn : Int) (nsF x0 x1 x2 x3 x4 x5 x6) l) := hide (fun h => by
            rcases h.2.2.2.1 with h | h
            · rw [Int.toNat_natCast, unhide HEE] at h; cases h
            · have := unhide HN; omega)
          go_wp2_with fail
          refine Calls.mono (unhide HH1) ?_
          rintro e wq ⟨rfl, rfl⟩
          go_wp2_with fail
          refine Calls.mono (unhide HH1) ?_
          rintro e wq ⟨rfl, rfl⟩
          go_wp2_with fail
          go_ret
          exact CkR.no (unhide HNO) (unhide HBX)
end Go.Proofs.YtbnfilhilgjnfaaDoor

namespace Go.Proofs.YtbnfilhilgjnfaaDoor
set_option linter.unusedVariables false
set_option linter.unusedSimpArgs false
open Go.ChangeShapes Go.WideShapes Go.ChangeAt Go.RowKit Go.Joins

section
variable {P : Program} {md : Region.Mode} {ops : Array Oper} {Q : Exit → Act → World → Prop} {S : World → Prop} {hd : Nat → Bool}
/-- two that may come up -/
theorem wpAnyT_two {i j : Nat} {o o' : Oper} {fuel : Nat} {listed : Array Bool} {a : Act} {w : World} (hr : Region.ready md ops listed = [i, j]) (ho : ops[i]? = some o) (ho' : ops[j]? = some o')
    (h : ∀ K' : Act → World → Prop, Shut (∀ a w, (hd i = true → S w) → Ed.wpAnyT P md ops Q S hd fuel (listed.setIfInBounds i true) a w → K' a w) → if Region.wanted o (yielded ops a.tmps) = true then Oper.wp P o a w K' Q else K' (a.put o.dst undef) w)
    (h' : ∀ K' : Act → World → Prop, Shut (∀ a w, (hd j = true → S w) → Ed.wpAnyT P md ops Q S hd fuel (listed.setIfInBounds j true) a w → K' a w) → if Region.wanted o' (yielded ops a.tmps) = true then Oper.wp P o' a w K' Q else K' (a.put o'.dst undef) w) :
    Ed.wpAnyT P md ops Q S hd (fuel + 1) listed a w := by
  refine ⟨fun h0 => absurd (hr ▸ h0) (by simp), fun x hx => ?_⟩
  rw [hr] at hx
  rcases List.mem_cons.1 hx with rfl | hx
  · exact wpOp_step ho (fun K' hK => h K' (fun a w hS hW => hK a w ⟨hS, hW⟩))
  · obtain rfl := List.mem_singleton.1 hx
    exact wpOp_step ho' (fun K' hK => h' K' (fun a w hS hW => hK a w ⟨hS, hW⟩))
end
set_option maxRecDepth 100000 in
set_option maxHeartbeats 4000000 in
theorem rputbytes_any (v x : Value) (l d : List Nat) (w : World) (hv : Byt w v l) (hx : Byt w x d) (hl : l.length ≤ 100000000) (hd : d.length ≤ 100000000) :
    Calls Tryd.prog 35 #[v, x] w fun e w' => ∃ v', e = .returned v' ∧ w'.ownsRow w.heap.size 5 1 v' (putB l d).length (bv (putB l d)) ∧ Below w.heap.size w w' := by
  obtain ⟨i0, hi, hz0, hz1, hz2⟩ := Go.info_parts info5
  obtain ⟨ax, cx, rfl⟩ := byt_shape hx
  have b1 : Below w.heap.size w (w.alloc (.cells #[.int .i64 (d.length : Int)] 3)) := (Below.refl _ _).alloc (Nat.le_refl _) _
  have R1 := RowAt.new w 3 [.int .i64 (d.length : Int)]
  have HPT := hide (refputm_any v l (some ⟨w.heap.size, 0, none⟩) 1 1 (fun _ => (d.length : Int)) (w.alloc (.cells #[.int .i64 (d.length : Int)] 3)) (hv.call b1) hl (by omega) (.inr ⟨w.heap.size, 0, rfl, by simp, fun i hi => by
    obtain rfl : i = 0 := by omega
    exact R1.cell 0⟩) (fun i _ => by omega))
  have HX := hide hx
  have HB1 := hide b1
  clear hv hx b1 R1
  obtain ⟨n, hn⟩ : ∃ n, d.length = n := ⟨_, rfl⟩
  rw [hn] at HPT HX HB1 hd ⊢
  have HN := hide hn
  clear hn
  go_enter Tryd.func35, Tryd.ntmps35
  go_wp2_with fail
  generalize w.alloc (.cells #[.int .i64 (n : Int)] 3) = w1 at *
  refine Calls.mono (unhide HPT) ?_
  rintro e w2 ⟨v2, rfl, o2, b2⟩
  have HO2 := hide (own_base o2 (unhide HB1).size)
  have HB2 := hide ((unhide HB1).trans (b2.mono (unhide HB1).size))
  have HL2 : Hid ((putN l (fun _ => (n : Int)) 1).length = l.length + 8) := hide (by rw [putN_len])
  have HE2 : Hid (putN l (fun _ => (n : Int)) 1 ++ d = putB l d) := hide (by
    show (l ++ num8 ((n : Int)).toNat) ++ d = l ++ num8 d.length ++ d
    rw [Int.toNat_natCast, unhide HN])
  have hsrc := byt_src ((unhide HX).call (unhide HB2)) (unhide HN)
  clear o2 b2 HPT HB1
  go_wp2_with (at_builtin; refine wpList_append_src _ rfl _ _ 30 rfl w.heap.size 5 i0 (.int .u8 0) 1 1 Tryd.underlying30 hi hz0 hz1 hz2 rfl (by decide) _ _ _ rfl (unhide HO2) ax n cx (bv d) rfl (by rw [bv_len, unhide HN, Nat.mul_one]) hsrc.1 hsrc.2 (bv_one _) ?c3 ?c4 (unhide HB2).size ?_)
  case c3 => rw [unhide HL2]; unfold maxLen; omega
  case c4 => rw [unhide HL2]; omega
  intro a7 c7 w7 O7 g7
  have HFF : Hid (w7.ownsRow w.heap.size 5 1 (.slice a7 ((putN l (fun _ => (n : Int)) 1).length + n) c7) (putB l d).length (bv (putB l d)) ∧ Below w.heap.size w w7) := hide ⟨own_cast O7 (by rw [← unhide HE2, List.length_append, unhide HN]) (by rw [← unhide HE2, bv_append]), (unhide HB2).grown g7 (unhide HB2).size (fun k hk => ((unhide HO2).lt k hk).1)⟩
  clear O7 g7
  go_wp2_with fail
  go_ret
  exact ⟨_, rfl, (unhide HFF).1, (unhide HFF).2⟩
theorem prt_app (l : List Nat) (p : Ed.Pt) : putB (putN l (prN p) 2) (txt p.text) = l ++ prt p := by
  simp [putB, putN, prt, List.append_assoc]
def RpR (k x0 x1 x2 x3 x4 x5 x6 : Int) (l : List Ed.Pt) (w : World) (e : Ending) (w' : World) : Prop := Below w.heap.size w w' ∧ (MsgOk k (nsF x0 x1 x2 x3 x4 x5 x6) l → ∃ v, e = .returned (.tuple #[v, .int .i64 0]) ∧ Byt w' v (msgL k x0 x1 x2 x3 x4 x5 x6 l)) ∧ (¬ MsgOk k (nsF x0 x1 x2 x3 x4 x5 x6) l → e = .returned (.tuple #[.slice none 0 0, .int .i64 120]))
set_option maxRecDepth 100000 in
set_option maxHeartbeats 8000000 in
theorem rput_any (k x0 x1 x2 x3 x4 x5 x6 : Int) (a : Option Addr) (l : List Ed.Pt) (c : Nat) (w : World) (hp : Ed.PtsAt w a l) (hc : l.length ≤ 4000) (hs : ∀ p ∈ l, p.text.size ≤ 281474976710656) :
    Calls Tryd.prog 15 #[msgV k x0 x1 x2 x3 x4 x5 x6 (.slice a l.length c)] w fun e w' => RpR k x0 x1 x2 x3 x4 x5 x6 l w e w' := by
  have HCK : Hid (∀ w1, Below w.heap.size w w1 → Calls Tryd.prog 11 #[msgV k x0 x1 x2 x3 x4 x5 x6 (.slice a l.length c)] w1 fun e w' => CkR k (nsF x0 x1 x2 x3 x4 x5 x6) l w1 e w') := hide (fun w1 hb => rcheck_any k x0 x1 x2 x3 x4 x5 x6 a l c w1 (hp.call hb) hc hs)
  obtain ⟨n, hn⟩ : ∃ n, l.length = n := ⟨_, rfl⟩
  rw [hn] at HCK ⊢
  have HN := hide hn
  have HP := hide hp
  clear hp hc hs hn
  have b1 : Below w.heap.size w (w.alloc (.cells #[.int .i64 k, .int .i64 x0, .int .i64 x1, .int .i64 x2, .int .i64 x3, .int .i64 x4, .int .i64 x5, .int .i64 x6, .slice a n c] 25)) := (Below.refl _ _).alloc (Nat.le_refl _) _
  have HC1 := hide (unhide HCK _ b1)
  have HR := hide (RowAt.new w 25 [.int .i64 k, .int .i64 x0, .int .i64 x1, .int .i64 x2, .int .i64 x3, .int .i64 x4, .int .i64 x5, .int .i64 x6, .slice a n c])
  have HB1 := hide b1
  clear HCK b1
  unfold msgV at *
  have c0 : (w.alloc (.cells #[.int .i64 k, .int .i64 x0, .int .i64 x1, .int .i64 x2, .int .i64 x3, .int .i64 x4, .int .i64 x5, .int .i64 x6, .slice a n c] 25)).cell? ⟨w.heap.size, 0, none⟩ = some (.int .i64 k) := (unhide HR).cell 0
  have c1 : (w.alloc (.cells #[.int .i64 k, .int .i64 x0, .int .i64 x1, .int .i64 x2, .int .i64 x3, .int .i64 x4, .int .i64 x5, .int .i64 x6, .slice a n c] 25)).cell? ⟨w.heap.size, 1, none⟩ = some (.int .i64 x0) := (unhide HR).cell 1
  have c2 : (w.alloc (.cells #[.int .i64 k, .int .i64 x0, .int .i64 x1, .int .i64 x2, .int .i64 x3, .int .i64 x4, .int .i64 x5, .int .i64 x6, .slice a n c] 25)).cell? ⟨w.heap.size, 2, none⟩ = some (.int .i64 x1) := (unhide HR).cell 2
  have c3 : (w.alloc (.cells #[.int .i64 k, .int .i64 x0, .int .i64 x1, .int .i64 x2, .int .i64 x3, .int .i64 x4, .int .i64 x5, .int .i64 x6, .slice a n c] 25)).cell? ⟨w.heap.size, 3, none⟩ = some (.int .i64 x2) := (unhide HR).cell 3
  have c4 : (w.alloc (.cells #[.int .i64 k, .int .i64 x0, .int .i64 x1, .int .i64 x2, .int .i64 x3, .int .i64 x4, .int .i64 x5, .int .i64 x6, .slice a n c] 25)).cell? ⟨w.heap.size, 4, none⟩ = some (.int .i64 x3) := (unhide HR).cell 4
  have c5 : (w.alloc (.cells #[.int .i64 k, .int .i64 x0, .int .i64 x1, .int .i64 x2, .int .i64 x3, .int .i64 x4, .int .i64 x5, .int .i64 x6, .slice a n c] 25)).cell? ⟨w.heap.size, 5, none⟩ = some (.int .i64 x4) := (unhide HR).cell 5
  have c6 : (w.alloc (.cells #[.int .i64 k, .int .i64 x0, .int .i64 x1, .int .i64 x2, .int .i64 x3, .int .i64 x4, .int .i64 x5, .int .i64 x6, .slice a n c] 25)).cell? ⟨w.heap.size, 6, none⟩ = some (.int .i64 x5) := (unhide HR).cell 6
  have c7 : (w.alloc (.cells #[.int .i64 k, .int .i64 x0, .int .i64 x1, .int .i64 x2, .int .i64 x3, .int .i64 x4, .int .i64 x5, .int .i64 x6, .slice a n c] 25)).cell? ⟨w.heap.size, 7, none⟩ = some (.int .i64 x6) := (unhide HR).cell 7
  have c8 : (w.alloc (.cells #[.int .i64 k, .int .i64 x0, .int .i64 x1, .int .i64 x2, .int .i64 x3, .int .i64 x4, .int .i64 x5, .int .i64 x6, .slice a n c] 25)).cell? ⟨w.heap.size, 8, none⟩ = some (.slice a n c) := (unhide HR).cell 8
  go_enter Tryd.func15, Tryd.ntmps15
  go_wp2_with fail
  generalize w.alloc (.cells #[.int .i64 k, .int .i64 x0, .int .i64 x1, .int .i64 x2, .int .i64 x3, .int .i64 x4, .int .i64 x5, .int .i64 x6, .slice a n c] 25) = w1 at *
  refine Calls.mono (unhide HC1) ?_
  rintro e w2 ⟨z, rfl, hz, hiff, b2⟩
  have HR2 := hide ((unhide HR).below b2 (unhide HR).lt)
  have HB2 := hide ((unhide HB1).trans (b2.mono (by have := (unhide HB1).size; omega)))
  have HIF := hide hiff
  clear b2 hiff HC1 HB1 HR c0 c1 c2 c3 c4 c5 c6 c7 c8
  rcases hz with rfl | rfl
  · have HOK : Hid (MsgOk k (nsF x0 x1 x2 x3 x4 x5 x6) l) := hide ((unhide HIF).1 rfl)
    have HLF := hide (light_facts (unhide HOK).2.2.2.2)
    have hn4 : n ≤ 400 := by have := (unhide HLF).1; rw [unhide HN] at this; exact this
    have c0 : w2.cell? ⟨w.heap.size, 0, none⟩ = some (.int .i64 k) := (unhide HR2).cell 0
    have c1 : w2.cell? ⟨w.heap.size, 1, none⟩ = some (.int .i64 x0) := (unhide HR2).cell 1
    have c2 : w2.cell? ⟨w.heap.size, 2, none⟩ = some (.int .i64 x1) := (unhide HR2).cell 2
    have c3 : w2.cell? ⟨w.heap.size, 3, none⟩ = some (.int .i64 x2) := (unhide HR2).cell 3
    have c4 : w2.cell? ⟨w.heap.size, 4, none⟩ = some (.int .i64 x3) := (unhide HR2).cell 4
    have c5 : w2.cell? ⟨w.heap.size, 5, none⟩ = some (.int .i64 x4) := (unhide HR2).cell 5
    have c6 : w2.cell? ⟨w.heap.size, 6, none⟩ = some (.int .i64 x5) := (unhide HR2).cell 6
    have c7 : w2.cell? ⟨w.heap.size, 7, none⟩ = some (.int .i64 x6) := (unhide HR2).cell 7
    have c8 : w2.cell? ⟨w.heap.size, 8, none⟩ = some (.slice a n c) := (unhide HR2).cell 8
    have b3 : Below w2.heap.size w2 (w2.alloc (.cells #[.int .i64 k, .int .i64 x0, .int .i64 x1, .int .i64 x2, .int .i64 x3, .int .i64 x4, .int .i64 x5, .int .i64 x6, .int .i64 (n : Int)] 3)) := (Below.refl _ _).alloc (Nat.le_refl _) _
    have R3 := RowAt.new w2 3 [.int .i64 k, .int .i64 x0, .int .i64 x1, .int .i64 x2, .int .i64 x3, .int .i64 x4, .int .i64 x5, .int .i64 x6, .int .i64 (n : Int)]
    have HPT := hide (refputm_any (.slice none 0 0) [] (some ⟨w2.heap.size, 0, none⟩) 9 9 (msgN k x0 x1 x2 x3 x4 x5 x6 n) (w2.alloc (.cells #[.int .i64 k, .int .i64 x0, .int .i64 x1, .int .i64 x2, .int .i64 x3, .int .i64 x4, .int .i64 x5, .int .i64 x6, .int .i64 (n : Int)] 3)) (.inl ⟨rfl, rfl⟩) (by simp) (by omega) (.inr ⟨w2.heap.size, 0, rfl, by simp, fun i hi => by
      have : i = 0 ∨ i = 1 ∨ i = 2 ∨ i = 3 ∨ i = 4 ∨ i = 5 ∨ i = 6 ∨ i = 7 ∨ i = 8 := by omega
      rcases this with rfl | rfl | rfl | rfl | rfl | rfl | rfl | rfl | rfl
      · exact R3.cell 0
      · exact R3.cell 1
      · exact R3.cell 2
      · exact R3.cell 3
      · exact R3.cell 4
      · exact R3.cell 5
      · exact R3.cell 6
      · exact R3.cell 7
      · exact R3.cell 8⟩) (fun i hi => (msgN_pos (unhide HOK) n hn4 i hi).2))
    have HB3 := hide b3
    clear b3 R3
    go_wp2_with fail
    generalize w2.alloc (.cells #[.int .i64 k, .int .i64 x0, .int .i64 x1, .int .i64 x2, .int .i64 x3, .int .i64 x4, .int .i64 x5, .int .i64 x6, .int .i64 (n : Int)] 3) = w3 at *
    refine Calls.mono (unhide HPT) ?_
    rintro e w4 ⟨v4, rfl, o4, b4⟩
    have HO4 := hide (Byt.of_own o4)
    have HB4 := hide ((unhide HB3).trans (b4.mono (unhide HB3).size))
    have HR4 := hide ((unhide HR2).below (unhide HB4) (unhide HR2).lt)
    have d8 : w4.cell? ⟨w.heap.size, 8, none⟩ = some (.slice a n c) := (unhide HR4).cell 8
    obtain ⟨HD, hHD⟩ : ∃ HD, putN [] (msgN k x0 x1 x2 x3 x4 x5 x6 n) 9 = HD := ⟨_, rfl⟩
    have HHL : Hid (HD.length = 72) := hide (by rw [← hHD, putN_len]; rfl)
    rw [hHD] at HO4
    have HHD := hide hHD
    clear o4 b4 HPT HB3 HR2 c0 c1 c2 c3 c4 c5 c6 c7 c8 hHD
    go_wp2_with fail
    clear d8
    go_loopw [5, 37] (fun v i wr => ∃ j : Nat, j ≤ n ∧ i = .int .i64 (j : Int) ∧ Hid (Byt wr v (HD ++ prts (l.take j))) ∧ Hid (Below w2.heap.size w2 wr)) (fun _ i _ => ((n : Int) - intOf i).toNat)
    case atStart => exact ⟨0, by omega, by simp, by simpa [prts] using HO4, HB4⟩
    case round =>
      obtain ⟨j, hj, rfl, HOW, HBW⟩ := hrel
      have HLJ : Hid ((HD ++ prts (l.take j)).length ≤ 20000) := hide (by rw [List.length_append, unhide HHL, prts_len, List.length_take]; have := sumS_take l j; have := (unhide HLF).2.2; omega)
      have HBX : Hid (Below w.heap.size w wr) := hide ((unhide HB2).trans ((unhide HBW).mono (unhide HB2).size))
      by_cases hlt : j < n
      · have kI : (j : Int) < (n : Int) := by omega
        obtain ⟨p, hpk⟩ : ∃ p, l[j]? = some p := ⟨_, List.getElem?_eq_getElem (by have := unhide HN; omega)⟩
        obtain ⟨b, off, rfl, e0, e1, e2⟩ := (unhide HP).at_ (unhide HBX) hpk
        have HST := hide (prts_take hpk)
        have HFS := hide (fits_size ((unhide HLF).2.1 p (List.mem_of_getElem? hpk)))
        have HSZ : Hid (p.text.size ≤ maxLen ∧ p.text.size ≤ 100000000) := hide (by
          have h1 : p.text.size ≤ sumS l := by
            have : sumS (l.take (j + 1)) = sumS (l.take j) + p.text.size := by unfold sumS; rw [List.take_add_one, hpk]; simp
            have := sumS_take l (j + 1)
            omega
          have := (unhide HLF).2.2
          unfold maxLen
          omega)
        have hbA : Below wr.heap.size wr (wr.alloc (.cells #[.int .i64 p.kind, .int .i64 p.n, .string p.text] 44)) := (Below.refl _ _).alloc (Nat.le_refl _) _
        have HRW := hide (RowAt.new wr 44 [.int .i64 p.kind, .int .i64 p.n, .string p.text])
        have HYL := hide ((unhide HOW).call hbA)
        have HBA := hide ((unhide HBW).trans (hbA.mono (unhide HBW).size))
        clear hpk hbA HOW
        obtain ⟨LJ, hLJ⟩ : ∃ LJ, HD ++ prts (l.take j) = LJ := ⟨_, rfl⟩
        have HLE : Hid (HD ++ prts (l.take (j + 1)) = LJ ++ prt p) := hide (by rw [unhide HST, ← hLJ, List.append_assoc])
        rw [hLJ] at HYL HLJ
        clear hLJ
        go_wp2_with fail
        obtain ⟨wA, hA⟩ : ∃ wA, wr.alloc (.cells #[.int .i64 p.kind, .int .i64 p.n, .string p.text] 44) = wA := ⟨_, rfl⟩
        rw [hA] at HRW HYL HBA ⊢
        clear hA e0 e1 e2 HBX HBW
        obtain ⟨gd, hgd⟩ : ∃ gd, wr.heap.size = gd := ⟨_, rfl⟩
        rw [hgd] at HRW ⊢
        clear hgd
        have HSS : Hid (∀ W, Below wA.heap.size wA W → W.cell? ⟨gd, 0, none⟩ = some (.int .i64 p.kind) ∧ W.cell? ⟨gd, 1, none⟩ = some (.int .i64 p.n) ∧ W.cell? ⟨gd, 2, none⟩ = some (.string p.text)) := hide (fun W hW => ⟨((unhide HRW).below hW (unhide HRW).lt).cell 0, ((unhide HRW).below hW (unhide HRW).lt).cell 1, ((unhide HRW).below hW (unhide HRW).lt).cell 2⟩)
        have HIN : Hid (∀ i, i < 2 → prN p i ≤ 9223372036854775807) := hide (fun i hi => by
          have h := unhide HFS
          have : i = 0 ∨ i = 1 := by omega
          rcases this with rfl | rfl
          · show p.kind ≤ _; omega
          · show p.n ≤ _; omega)
        refine Ed.wp_region_T (S := fun W => W.cell? ⟨gd, 0, none⟩ = some (.int .i64 p.kind) ∧ W.cell? ⟨gd, 1, none⟩ = some (.int .i64 p.n) ∧ W.cell? ⟨gd, 2, none⟩ = some (.string p.text)) (fun i => decide (i < 12)) (by kernel_rfl) (unhide HSS _ (Below.refl _ _).drew) (fun hHeld => ?_)
        obtain ⟨wd, hwd⟩ : ∃ z, wA.drew = z := ⟨_, rfl⟩
        have hbd : Below wA.heap.size wA wd := by rw [← hwd]; exact (Below.refl _ _).drew
        have HBwd := hide hbd
        rw [hwd] at hHeld ⊢
        clear hwd hbd
        refine Ed.wpAnyT_take (i := 0) (oi := { dst := some 41, op := Op.move (Operand.tmp 5), type := 30, pos := "ref.go:87", after := #[], guard := none }) (v := u5) rfl (by kernel_rfl) (by kernel_rfl) (by kernel_rfl) (by kernel_rfl) (fun _ _ _ h => h) (Or.inl ⟨by rfl, ?_⟩) hHeld ?_
        · intro w hSw
          obtain ⟨s0, s1, s2⟩ := hSw
          first
            | rfl
            | (go_simp; done)
        try simp only [Act.put, List.setIfInBounds_toArray, List.set_cons_zero, List.set_cons_succ]
        refine Ed.wpAnyT_take (i := 1) (oi := { dst := some 42, op := Op.fieldAddr 44 (Operand.tmp 7) 0, type := 0, pos := "ref.go:87", after := #[], guard := none }) (v := .pointer (some ⟨gd, 0, none⟩)) rfl (by kernel_rfl) (by kernel_rfl) (by kernel_rfl) (by kernel_rfl) (fun _ _ _ h => h) (Or.inl ⟨by rfl, ?_⟩) hHeld ?_
        · intro w hSw
          obtain ⟨s0, s1, s2⟩ := hSw
          first
            | rfl
            | (go_simp; done)
        try simp only [Act.put, List.setIfInBounds_toArray, List.set_cons_zero, List.set_cons_succ]
        refine Ed.wpAnyT_take (i := 2) (oi := { dst := some 43, op := Op.load 3 (Operand.tmp 42), type := 3, pos := "ref.go:87", after := #[{ on := 1, ground := Ground.data }], guard := none }) (v := .int .i64 p.kind) rfl (by kernel_rfl) (by kernel_rfl) (by kernel_rfl) (by kernel_rfl) (fun _ _ _ h => h) (Or.inl ⟨by rfl, ?_⟩) hHeld ?_
        · intro w hSw
          obtain ⟨s0, s1, s2⟩ := hSw
          first
            | rfl
            | (go_simp; done)
        try simp only [Act.put, List.setIfInBounds_toArray, List.set_cons_zero, List.set_cons_succ]
        refine Ed.wpAnyT_take (i := 3) (oi := { dst := some 44, op := Op.fieldAddr 44 (Operand.tmp 7) 1, type := 0, pos := "ref.go:87", after := #[], guard := none }) (v := .pointer (some ⟨gd, 1, none⟩)) rfl (by kernel_rfl) (by kernel_rfl) (by kernel_rfl) (by kernel_rfl) (fun _ _ _ h => h) (Or.inl ⟨by rfl, ?_⟩) hHeld ?_
        · intro w hSw
          obtain ⟨s0, s1, s2⟩ := hSw
          first
            | rfl
            | (go_simp; done)
        try simp only [Act.put, List.setIfInBounds_toArray, List.set_cons_zero, List.set_cons_succ]
        refine Ed.wpAnyT_take (i := 4) (oi := { dst := some 45, op := Op.load 3 (Operand.tmp 44), type := 3, pos := "ref.go:87", after := #[{ on := 3, ground := Ground.data }], guard := none }) (v := .int .i64 p.n) rfl (by kernel_rfl) (by kernel_rfl) (by kernel_rfl) (by kernel_rfl) (fun _ _ _ h => h) (Or.inl ⟨by rfl, ?_⟩) hHeld ?_
        · intro w hSw
          obtain ⟨s0, s1, s2⟩ := hSw
          first
            | rfl
            | (go_simp; done)
        try simp only [Act.put, List.setIfInBounds_toArray, List.set_cons_zero, List.set_cons_succ]
        refine Ed.wpAnyT_take (i := 7) (oi := { dst := some 48, op := Op.fieldAddr 44 (Operand.tmp 7) 2, type := 0, pos := "ref.go:87", after := #[], guard := none }) (v := .pointer (some ⟨gd, 2, none⟩)) rfl (by kernel_rfl) (by kernel_rfl) (by kernel_rfl) (by kernel_rfl) (fun _ _ _ h => h) (Or.inl ⟨by rfl, ?_⟩) hHeld ?_
        · intro w hSw
          obtain ⟨s0, s1, s2⟩ := hSw
          first
            | rfl
            | (go_simp; done)
        try simp only [Act.put, List.setIfInBounds_toArray, List.set_cons_zero, List.set_cons_succ]
        refine Ed.wpAnyT_take (i := 8) (oi := { dst := some 49, op := Op.load 9 (Operand.tmp 48), type := 9, pos := "ref.go:87", after := #[{ on := 7, ground := Ground.data }], guard := none }) (v := .string p.text) rfl (by kernel_rfl) (by kernel_rfl) (by kernel_rfl) (by kernel_rfl) (fun _ _ _ h => h) (Or.inl ⟨by rfl, ?_⟩) hHeld ?_
        · intro w hSw
          obtain ⟨s0, s1, s2⟩ := hSw
          first
            | rfl
            | (go_simp; done)
        try simp only [Act.put, List.setIfInBounds_toArray, List.set_cons_zero, List.set_cons_succ]
        refine wpAnyT_two (i := 5) (j := 9) (o := { dst := some 46, op := Op.buildSlice 53 2 #[(0, Operand.tmp 43), (1, Operand.tmp 45)], type := 53, pos := "ref.go:87", after := #[{ on := 2, ground := Ground.data }, { on := 4, ground := Ground.data }], guard := none }) (o' := { dst := some 50, op := Op.convert 9 30 (Operand.tmp 49), type := 30, pos := "ref.go:87", after := #[{ on := 8, ground := Ground.data }], guard := none }) (by kernel_rfl) rfl rfl (fun K hK => ?_) (fun K hK => ?_)
        · go_simp
          have hbx : Below wd.heap.size wd (wd.alloc (.cells #[.int .i64 p.kind, .int .i64 p.n] 3)) := (Below.refl _ _).alloc (Nat.le_refl _) _
          have HRwp5wd := hide (RowAt.new wd 3 [.int .i64 p.kind, .int .i64 p.n])
          have HBwp5wd := hide ((unhide HBwd).trans (hbx.mono (unhide HBwd).size))
          clear hbx
          obtain ⟨wp5wd, hz⟩ : ∃ z, wd.alloc (.cells #[.int .i64 p.kind, .int .i64 p.n] 3) = z := ⟨_, rfl⟩
          obtain ⟨gE, hgE⟩ : ∃ z, wd.heap.size = z := ⟨_, rfl⟩
          rw [hz] at HRwp5wd HBwp5wd ⊢
          rw [hgE] at HRwp5wd ⊢
          clear hz hgE
          refine hK.out _ _ (fun _ => unhide HSS _ (unhide HBwp5wd)) ?_
          clear hK K
          try simp only [Act.put, List.setIfInBounds_toArray, List.set_cons_zero, List.set_cons_succ]
          refine wpAnyT_two (i := 6) (j := 9) (o := { dst := some 47, op := Op.call { callee := Callee.value (Operand.func 34), args := #[Operand.tmp 41, Operand.tmp 46], argTypes := #[30, 53] }, type := 30, pos := "ref.go:87", after := #[{ on := 0, ground := Ground.data }, { on := 5, ground := Ground.data }], guard := none }) (o' := { dst := some 50, op := Op.convert 9 30 (Operand.tmp 49), type := 30, pos := "ref.go:87", after := #[{ on := 8, ground := Ground.data }], guard := none }) (by kernel_rfl) rfl rfl (fun K hK => ?_) (fun K hK => ?_)
          · go_simp
            refine Calls.mono (refputm_any u5 LJ (some ⟨gE, 0, none⟩) 2 2 (prN p) wp5wd ((unhide HYL).call (unhide HBwp5wd)) (by have := unhide HLJ; omega) (by omega) (.inr ⟨gE, 0, rfl, (unhide HRwp5wd).lt, fun i hi => by
              have : i = 0 ∨ i = 1 := by omega
              rcases this with rfl | rfl
              · exact (unhide HRwp5wd).cell 0
              · exact (unhide HRwp5wd).cell 1⟩) (unhide HIN)) ?_
            rintro e wp6wp5wd ⟨v6, rfl, o6, b6⟩
            have H6wp6wp5wd := hide (Byt.of_own o6)
            have HBwp6wp5wd := hide ((unhide HBwp5wd).trans (b6.mono (unhide HBwp5wd).size))
            clear o6 b6
            go_wp2_with fail
            refine hK.out _ _ (fun _ => unhide HSS _ (unhide HBwp6wp5wd)) ?_
            clear hK K
            try simp only [Act.put, List.setIfInBounds_toArray, List.set_cons_zero, List.set_cons_succ]
            refine Ed.wpAnyT_one (i := 9) (o := { dst := some 50, op := Op.convert 9 30 (Operand.tmp 49), type := 30, pos := "ref.go:87", after := #[{ on := 8, ground := Ground.data }], guard := none }) (by kernel_rfl) rfl (fun K hK => ?_)
            have hcv := Lib.run_convert_string_bytes (P := Tryd.prog) wp6wp5wd 9 30 5 p.text Tryd.underlying9 Tryd.underlying30 Tryd.underlying5
            have H9wy9 := hide (sb_byt wp6wp5wd p.text (unhide HSZ).1)
            have hbx := sb_below wp6wp5wd p.text
            have H6wy9 := hide ((unhide H6wp6wp5wd).call hbx)
            have HBwy9 := hide ((unhide HBwp6wp5wd).trans (hbx.mono (unhide HBwp6wp5wd).size))
            clear hbx
            obtain ⟨cS, hcS⟩ : ∃ z, grownCap wp6wp5wd p.text.size 0 5 = z := ⟨_, rfl⟩
            obtain ⟨wy9, hz⟩ : ∃ z, Lib.bytesWorld wp6wp5wd 5 p.text = z := ⟨_, rfl⟩
            obtain ⟨gS, hgS⟩ : ∃ z, wp6wp5wd.heap.size = z := ⟨_, rfl⟩
            rw [hcS] at hcv H9wy9
            rw [hz] at hcv H9wy9 H6wy9 HBwy9
            rw [hgS] at hcv H9wy9
            clear hcS hz hgS
            go_wp2_with fail
            refine hK.out _ _ (fun _ => unhide HSS _ (unhide HBwy9)) ?_
            clear hK K
            clear hcv
            try simp only [Act.put, List.setIfInBounds_toArray, List.set_cons_zero, List.set_cons_succ]
            refine Ed.wpAnyT_one (i := 10) (o := { dst := some 51, op := Op.call { callee := Callee.value (Operand.func 35), args := #[Operand.tmp 47, Operand.tmp 50], argTypes := #[30, 30] }, type := 30, pos := "ref.go:87", after := #[{ on := 6, ground := Ground.data }, { on := 9, ground := Ground.data }, { on := 6, ground := Ground.chain }], guard := none }) (by kernel_rfl) rfl (fun K hK => ?_)
            go_simp
            refine Calls.mono (rputbytes_any v6 (.slice (some ⟨gS, 0, none⟩) p.text.size cS) (putN LJ (prN p) 2) (txt p.text) wy9 (unhide H6wy9) (unhide H9wy9) (by rw [putN_len]; have := unhide HLJ; omega) (by rw [txt_len]; exact (unhide HSZ).2)) ?_
            rintro e wz ⟨vz, rfl, oz, bz⟩
            have HYZ : Hid (Byt wz vz (LJ ++ prt p)) := hide (by have h := Byt.of_own oz; rw [prt_app] at h; exact h)
            have HBwz := hide ((unhide HBwy9).trans (bz.mono (unhide HBwy9).size))
            clear oz bz
            go_wp2_with fail
            refine hK.out _ _ (fun _ => unhide HSS _ (unhide HBwz)) ?_
            clear hK K
            try simp only [Act.put, List.setIfInBounds_toArray, List.set_cons_zero, List.set_cons_succ]
            refine Ed.wpAnyT_take (i := 11) (oi := { dst := some 5, op := Op.assign (Operand.tmp 51), type := 30, pos := "ref.go:87", after := #[{ on := 10, ground := Ground.data }, { on := 10, ground := Ground.chain }, { on := 0, ground := Ground.phase }, { on := 1, ground := Ground.phase }, { on := 2, ground := Ground.phase }, { on := 3, ground := Ground.phase }, { on := 4, ground := Ground.phase }, { on := 5, ground := Ground.phase }, { on := 6, ground := Ground.phase }, { on := 7, ground := Ground.phase }, { on := 8, ground := Ground.phase }, { on := 9, ground := Ground.phase }, { on := 10, ground := Ground.phase }], guard := none }) (v := vz) rfl (by kernel_rfl) (by kernel_rfl) (by kernel_rfl) (by kernel_rfl) (fun _ _ _ h => h) (Or.inl ⟨by rfl, ?_⟩) (unhide HSS _ (unhide HBwz)) ?_
            · intro w hSw
              obtain ⟨s0, s1, s2⟩ := hSw
              first
                | rfl
                | (go_simp; done)
            try simp only [Act.put, List.setIfInBounds_toArray, List.set_cons_zero, List.set_cons_succ]
            refine Ed.wpAnyT_done (by kernel_rfl) ?_ _
            go_wp2_with fail
            exact ⟨⟨j + 1, by omega, by simp, by rw [unhide HLE]; exact HYZ, hide ((unhide HBA).trans ((unhide HBwz).mono (unhide HBA).size))⟩, by simp [intOf]; omega⟩
          · have hcv := Lib.run_convert_string_bytes (P := Tryd.prog) wp5wd 9 30 5 p.text Tryd.underlying9 Tryd.underlying30 Tryd.underlying5
            have H9wp9wp5wd := hide (sb_byt wp5wd p.text (unhide HSZ).1)
            have hbx := sb_below wp5wd p.text
            have HRwp9wp5wd := hide ((unhide HRwp5wd).below hbx (unhide HRwp5wd).lt)
            have HBwp9wp5wd := hide ((unhide HBwp5wd).trans (hbx.mono (unhide HBwp5wd).size))
            clear hbx
            obtain ⟨cS, hcS⟩ : ∃ z, grownCap wp5wd p.text.size 0 5 = z := ⟨_, rfl⟩
            obtain ⟨wp9wp5wd, hz⟩ : ∃ z, Lib.bytesWorld wp5wd 5 p.text = z := ⟨_, rfl⟩
            obtain ⟨gS, hgS⟩ : ∃ z, wp5wd.heap.size = z := ⟨_, rfl⟩
            rw [hcS] at hcv H9wp9wp5wd
            rw [hz] at hcv H9wp9wp5wd HRwp9wp5wd HBwp9wp5wd
            rw [hgS] at hcv H9wp9wp5wd
            clear hcS hz hgS
            go_wp2_with fail
            refine hK.out _ _ (fun _ => unhide HSS _ (unhide HBwp9wp5wd)) ?_
            clear hK K
            clear hcv
            try simp only [Act.put, List.setIfInBounds_toArray, List.set_cons_zero, List.set_cons_succ]
            refine Ed.wpAnyT_one (i := 6) (o := { dst := some 47, op := Op.call { callee := Callee.value (Operand.func 34), args := #[Operand.tmp 41, Operand.tmp 46], argTypes := #[30, 53] }, type := 30, pos := "ref.go:87", after := #[{ on := 0, ground := Ground.data }, { on := 5, ground := Ground.data }], guard := none }) (by kernel_rfl) rfl (fun K hK => ?_)
            go_simp
            refine Calls.mono (refputm_any u5 LJ (some ⟨gE, 0, none⟩) 2 2 (prN p) wp9wp5wd ((unhide HYL).call (unhide HBwp9wp5wd)) (by have := unhide HLJ; omega) (by omega) (.inr ⟨gE, 0, rfl, (unhide HRwp9wp5wd).lt, fun i hi => by
              have : i = 0 ∨ i = 1 := by omega
              rcases this with rfl | rfl
              · exact (unhide HRwp9wp5wd).cell 0
              · exact (unhide HRwp9wp5wd).cell 1⟩) (unhide HIN)) ?_
            rintro e wy6 ⟨v6, rfl, o6, b6⟩
            have H6wy6 := hide (Byt.of_own o6)
            have H9wy6 := hide ((unhide H9wp9wp5wd).call b6)
            have HBwy6 := hide ((unhide HBwp9wp5wd).trans (b6.mono (unhide HBwp9wp5wd).size))
            clear o6 b6
            go_wp2_with fail
            refine hK.out _ _ (fun _ => unhide HSS _ (unhide HBwy6)) ?_
            clear hK K
            try simp only [Act.put, List.setIfInBounds_toArray, List.set_cons_zero, List.set_cons_succ]
            refine Ed.wpAnyT_one (i := 10) (o := { dst := some 51, op := Op.call { callee := Callee.value (Operand.func 35), args := #[Operand.tmp 47, Operand.tmp 50], argTypes := #[30, 30] }, type := 30, pos := "ref.go:87", after := #[{ on := 6, ground := Ground.data }, { on := 9, ground := Ground.data }, { on := 6, ground := Ground.chain }], guard := none }) (by kernel_rfl) rfl (fun K hK => ?_)
            go_simp
            refine Calls.mono (rputbytes_any v6 (.slice (some ⟨gS, 0, none⟩) p.text.size cS) (putN LJ (prN p) 2) (txt p.text) wy6 (unhide H6wy6) (unhide H9wy6) (by rw [putN_len]; have := unhide HLJ; omega) (by rw [txt_len]; exact (unhide HSZ).2)) ?_
            rintro e wz ⟨vz, rfl, oz, bz⟩
            have HYZ : Hid (Byt wz vz (LJ ++ prt p)) := hide (by have h := Byt.of_own oz; rw [prt_app] at h; exact h)
            have HBwz := hide ((unhide HBwy6).trans (bz.mono (unhide HBwy6).size))
            clear oz bz
            go_wp2_with fail
            refine hK.out _ _ (fun _ => unhide HSS _ (unhide HBwz)) ?_
            clear hK K
            try simp only [Act.put, List.setIfInBounds_toArray, List.set_cons_zero, List.set_cons_succ]
            refine Ed.wpAnyT_take (i := 11) (oi := { dst := some 5, op := Op.assign (Operand.tmp 51), type := 30, pos := "ref.go:87", after := #[{ on := 10, ground := Ground.data }, { on := 10, ground := Ground.chain }, { on := 0, ground := Ground.phase }, { on := 1, ground := Ground.phase }, { on := 2, ground := Ground.phase }, { on := 3, ground := Ground.phase }, { on := 4, ground := Ground.phase }, { on := 5, ground := Ground.phase }, { on := 6, ground := Ground.phase }, { on := 7, ground := Ground.phase }, { on := 8, ground := Ground.phase }, { on := 9, ground := Ground.phase }, { on := 10, ground := Ground.phase }], guard := none }) (v := vz) rfl (by kernel_rfl) (by kernel_rfl) (by kernel_rfl) (by kernel_rfl) (fun _ _ _ h => h) (Or.inl ⟨by rfl, ?_⟩) (unhide HSS _ (unhide HBwz)) ?_
            · intro w hSw
              obtain ⟨s0, s1, s2⟩ := hSw
              first
                | rfl
                | (go_simp; done)
            try simp only [Act.put, List.setIfInBounds_toArray, List.set_cons_zero, List.set_cons_succ]
            refine Ed.wpAnyT_done (by kernel_rfl) ?_ _
            go_wp2_with fail
            exact ⟨⟨j + 1, by omega, by simp, by rw [unhide HLE]; exact HYZ, hide ((unhide HBA).trans ((unhide HBwz).mono (unhide HBA).size))⟩, by simp [intOf]; omega⟩
        · have hcv := Lib.run_convert_string_bytes (P := Tryd.prog) wd 9 30 5 p.text Tryd.underlying9 Tryd.underlying30 Tryd.underlying5
          have H9wp9wd := hide (sb_byt wd p.text (unhide HSZ).1)
          have hbx := sb_below wd p.text
          have HBwp9wd := hide ((unhide HBwd).trans (hbx.mono (unhide HBwd).size))
          clear hbx
          obtain ⟨cS, hcS⟩ : ∃ z, grownCap wd p.text.size 0 5 = z := ⟨_, rfl⟩
          obtain ⟨wp9wd, hz⟩ : ∃ z, Lib.bytesWorld wd 5 p.text = z := ⟨_, rfl⟩
          obtain ⟨gS, hgS⟩ : ∃ z, wd.heap.size = z := ⟨_, rfl⟩
          rw [hcS] at hcv H9wp9wd
          rw [hz] at hcv H9wp9wd  HBwp9wd
          rw [hgS] at hcv H9wp9wd
          clear hcS hz hgS
          go_wp2_with fail
          refine hK.out _ _ (fun _ => unhide HSS _ (unhide HBwp9wd)) ?_
          clear hK K
          clear hcv
          try simp only [Act.put, List.setIfInBounds_toArray, List.set_cons_zero, List.set_cons_succ]
          refine Ed.wpAnyT_one (i := 5) (o := { dst := some 46, op := Op.buildSlice 53 2 #[(0, Operand.tmp 43), (1, Operand.tmp 45)], type := 53, pos := "ref.go:87", after := #[{ on := 2, ground := Ground.data }, { on := 4, ground := Ground.data }], guard := none }) (by kernel_rfl) rfl (fun K hK => ?_)
          go_simp
          have hbx : Below wp9wd.heap.size wp9wd (wp9wd.alloc (.cells #[.int .i64 p.kind, .int .i64 p.n] 3)) := (Below.refl _ _).alloc (Nat.le_refl _) _
          have HRwx5 := hide (RowAt.new wp9wd 3 [.int .i64 p.kind, .int .i64 p.n])
          have H9wx5 := hide ((unhide H9wp9wd).call hbx)
          have HBwx5 := hide ((unhide HBwp9wd).trans (hbx.mono (unhide HBwp9wd).size))
          clear hbx
          obtain ⟨wx5, hz⟩ : ∃ z, wp9wd.alloc (.cells #[.int .i64 p.kind, .int .i64 p.n] 3) = z := ⟨_, rfl⟩
          obtain ⟨gE, hgE⟩ : ∃ z, wp9wd.heap.size = z := ⟨_, rfl⟩
          rw [hz] at HRwx5 H9wx5 HBwx5 ⊢
          rw [hgE] at HRwx5 ⊢
          clear hz hgE
          refine hK.out _ _ (fun _ => unhide HSS _ (unhide HBwx5)) ?_
          clear hK K
          try simp only [Act.put, List.setIfInBounds_toArray, List.set_cons_zero, List.set_cons_succ]
          refine Ed.wpAnyT_one (i := 6) (o := { dst := some 47, op := Op.call { callee := Callee.value (Operand.func 34), args := #[Operand.tmp 41, Operand.tmp 46], argTypes := #[30, 53] }, type := 30, pos := "ref.go:87", after := #[{ on := 0, ground := Ground.data }, { on := 5, ground := Ground.data }], guard := none }) (by kernel_rfl) rfl (fun K hK => ?_)
          go_simp
          refine Calls.mono (refputm_any u5 LJ (some ⟨gE, 0, none⟩) 2 2 (prN p) wx5 ((unhide HYL).call (unhide HBwx5)) (by have := unhide HLJ; omega) (by omega) (.inr ⟨gE, 0, rfl, (unhide HRwx5).lt, fun i hi => by
            have : i = 0 ∨ i = 1 := by omega
            rcases this with rfl | rfl
            · exact (unhide HRwx5).cell 0
            · exact (unhide HRwx5).cell 1⟩) (unhide HIN)) ?_
          rintro e wx6 ⟨v6, rfl, o6, b6⟩
          have H6wx6 := hide (Byt.of_own o6)
          have H9wx6 := hide ((unhide H9wx5).call b6)
          have HBwx6 := hide ((unhide HBwx5).trans (b6.mono (unhide HBwx5).size))
          clear o6 b6
          go_wp2_with fail
          refine hK.out _ _ (fun _ => unhide HSS _ (unhide HBwx6)) ?_
          clear hK K
          try simp only [Act.put, List.setIfInBounds_toArray, List.set_cons_zero, List.set_cons_succ]
          refine Ed.wpAnyT_one (i := 10) (o := { dst := some 51, op := Op.call { callee := Callee.value (Operand.func 35), args := #[Operand.tmp 47, Operand.tmp 50], argTypes := #[30, 30] }, type := 30, pos := "ref.go:87", after := #[{ on := 6, ground := Ground.data }, { on := 9, ground := Ground.data }, { on := 6, ground := Ground.chain }], guard := none }) (by kernel_rfl) rfl (fun K hK => ?_)
          go_simp
          refine Calls.mono (rputbytes_any v6 (.slice (some ⟨gS, 0, none⟩) p.text.size cS) (putN LJ (prN p) 2) (txt p.text) wx6 (unhide H6wx6) (unhide H9wx6) (by rw [putN_len]; have := unhide HLJ; omega) (by rw [txt_len]; exact (unhide HSZ).2)) ?_
          rintro e wz ⟨vz, rfl, oz, bz⟩
          have HYZ : Hid (Byt wz vz (LJ ++ prt p)) := hide (by have h := Byt.of_own oz; rw [prt_app] at h; exact h)
          have HBwz := hide ((unhide HBwx6).trans (bz.mono (unhide HBwx6).size))
          clear oz bz
          go_wp2_with fail
          refine hK.out _ _ (fun _ => unhide HSS _ (unhide HBwz)) ?_
          clear hK K
          try simp only [Act.put, List.setIfInBounds_toArray, List.set_cons_zero, List.set_cons_succ]
          refine Ed.wpAnyT_take (i := 11) (oi := { dst := some 5, op := Op.assign (Operand.tmp 51), type := 30, pos := "ref.go:87", after := #[{ on := 10, ground := Ground.data }, { on := 10, ground := Ground.chain }, { on := 0, ground := Ground.phase }, { on := 1, ground := Ground.phase }, { on := 2, ground := Ground.phase }, { on := 3, ground := Ground.phase }, { on := 4, ground := Ground.phase }, { on := 5, ground := Ground.phase }, { on := 6, ground := Ground.phase }, { on := 7, ground := Ground.phase }, { on := 8, ground := Ground.phase }, { on := 9, ground := Ground.phase }, { on := 10, ground := Ground.phase }], guard := none }) (v := vz) rfl (by kernel_rfl) (by kernel_rfl) (by kernel_rfl) (by kernel_rfl) (fun _ _ _ h => h) (Or.inl ⟨by rfl, ?_⟩) (unhide HSS _ (unhide HBwz)) ?_
          · intro w hSw
            obtain ⟨s0, s1, s2⟩ := hSw
            first
              | rfl
              | (go_simp; done)
          try simp only [Act.put, List.setIfInBounds_toArray, List.set_cons_zero, List.set_cons_succ]
          refine Ed.wpAnyT_done (by kernel_rfl) ?_ _
          go_wp2_with fail
          exact ⟨⟨j + 1, by omega, by simp, by rw [unhide HLE]; exact HYZ, hide ((unhide HBA).trans ((unhide HBwz).mono (unhide HBA).size))⟩, by simp [intOf]; omega⟩
      · obtain rfl : n = j := by omega
        have kI : ¬ (n : Int) < (n : Int) := by omega
        have HO9 : Hid (Byt wr u5 (msgL k x0 x1 x2 x3 x4 x5 x6 l)) := hide (by
          have h := unhide HOW
          rw [List.take_of_length_le (by rw [unhide HN]; exact Nat.le_refl _)] at h
          rw [msgL, unhide HN, unhide HHD]; exact h)
        have HOK2 := HOK
        go_wp2_with fail
        go_ret2
        exact ⟨unhide HBX, fun _ => ⟨_, rfl, unhide HO9⟩, fun h => absurd (unhide HOK2) h⟩
  · have HNO : Hid (¬ MsgOk k (nsF x0 x1 x2 x3 x4 x5 x6) l) := hide (fun h => by have := (unhide HIF).2 h; omega)
    go_wp2_with fail
    go_ret2
    exact ⟨unhide HB2, fun h => absurd h (unhide HNO), fun _ => rfl⟩
end Go.Proofs.YtbnfilhilgjnfaaDoor
