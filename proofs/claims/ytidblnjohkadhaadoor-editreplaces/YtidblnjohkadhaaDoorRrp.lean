/- The document's Replace: the walk. -/
import Derived.Test.YtidblnjohkadhaaDoorRnm
import Derived.Test.YtidblnjohkadhaaDoorAwk
namespace Go.Proofs.YtidblnjohkadhaaDoor
set_option linter.unusedVariables false
set_option linter.unusedSimpArgs false
open Go.ChangeShapes Go.WideShapes Go.ChangeAt Go.RowKit Go.Joins Go.Deep

def rrS (out : List Pt) (p : Pt) : List Pt := if 0 < p.n then oneL out p else out
def rrF (l : List Pt) : List Pt := l.foldl rrS []
theorem rrF_take {l : List Pt} {i : Nat} {p : Pt} (h : l[i]? = some p) : rrF (l.take (i + 1)) = rrS (rrF (l.take i)) p := by
  unfold rrF
  rw [List.take_add_one, h, List.foldl_append]
  rfl
theorem rrS_nf {out : List Pt} {p : Pt} (h : NfG 0 out) (hg : 0 < p.n → Good p) (hn : p.n ≤ 1099511627776) (hk : ¬ (p.kind = 2 ∧ lastK 0 out = 3)) : NfG 0 (rrS out p) ∧ atomsL (rrS out p) = atomsL out ++ (if 0 < p.n then atoms p else []) ∧ (lastK 0 (rrS out p) = p.kind ∨ lastK 0 (rrS out p) = lastK 0 out) ∧ sumT (rrS out p) ≤ sumT out + p.text.size ∧ (rrS out p).length ≤ out.length + 1 ∧ ((atomsL (rrS out p)).length : Int) ≤ (atomsL out).length + 1099511627776 := by
  unfold rrS
  by_cases h0 : 0 < p.n
  · rw [if_pos h0, if_pos h0]
    obtain ⟨a1, a2, a3⟩ := oneL_nf h (hg h0) hk
    exact ⟨a1, a2, .inl a3, by rw [oneL_sum]; exact Nat.le_refl _, oneL_len _ _, by rw [a2, List.length_append]; have := (hg h0).len.1; omega⟩
  · rw [if_neg h0, if_neg h0]
    exact ⟨h, by simp, .inr rfl, by omega, by omega, by omega⟩
def repP (n at_ k : Int) (s : ByteArray) : List Pt := [⟨1, at_, ByteArray.empty⟩, ⟨2, (Lib.runeCount s : Int), s⟩, ⟨3, k, ByteArray.empty⟩, ⟨1, n - at_ - k, ByteArray.empty⟩]
structure RrI (out : List Pt) (M : Nat) (j : Nat) : Prop where
  nf : NfG 0 out
  len : ((atomsL out).length : Int) ≤ 1099511627776 * (j : Int)
  sum : sumT out ≤ M
  num : out.length ≤ j
theorem rep_fold {n at_ k : Int} {s : ByteArray} {cs : List (List UInt8)} (h : Tx s cs) (n0 : 0 ≤ n) (n1 : n ≤ 1099511627776) (a0 : 0 ≤ at_) (a1 : at_ ≤ n) (k0 : 0 ≤ k) (k1 : k ≤ n - at_) (hl : (cs.length : Int) ≤ 1099511627776 - n) :
    (∀ j, j ≤ 4 → RrI (rrF ((repP n at_ k s).take j)) s.size j) ∧ rrF (repP n at_ k s) = repL n at_ k s := by
  have hc := h.count
  have g0 : 0 < at_ → Good ⟨1, at_, ByteArray.empty⟩ := fun h => good_keep h
  have g1 : 0 < (Lib.runeCount s : Int) → Good ⟨2, (Lib.runeCount s : Int), s⟩ := fun h0 => ⟨by show 1 ≤ (Lib.runeCount s : Int); omega, .inr (.inr ⟨rfl, cs, h, by rw [hc]⟩)⟩
  have g2 : 0 < k → Good ⟨3, k, ByteArray.empty⟩ := fun h => good_drop h
  have g3 : 0 < n - at_ - k → Good ⟨1, n - at_ - k, ByteArray.empty⟩ := fun h => good_keep h
  obtain ⟨x1, x2, x3, x4, x5, x6⟩ := rrS_nf (out := []) (p := ⟨1, at_, ByteArray.empty⟩) trivial g0 (by show at_ ≤ _; omega) (by simp)
  obtain ⟨y1, y2, y3, y4, y5, y6⟩ := rrS_nf (p := ⟨2, (Lib.runeCount s : Int), s⟩) x1 g1 (by show (Lib.runeCount s : Int) ≤ _; rw [hc]; omega) (by simp only [lastK] at x3; omega)
  obtain ⟨z1, z2, z3, z4, z5, z6⟩ := rrS_nf (p := ⟨3, k, ByteArray.empty⟩) y1 g2 (by show k ≤ _; omega) (by simp)
  obtain ⟨v1, v2, v3, v4, v5, v6⟩ := rrS_nf (p := ⟨1, n - at_ - k, ByteArray.empty⟩) z1 g3 (by show n - at_ - k ≤ _; omega) (by simp)
  have e0 : (ByteArray.empty).size = 0 := rfl
  simp only [e0] at x4 y4 z4 v4
  have s1 : (atomsL ([] : List Pt)).length = 0 := rfl
  rw [s1] at x6
  have s0 : sumT ([] : List Pt) = 0 := rfl
  simp only [s0, List.length_nil] at x4 x5
  constructor
  · intro j hj
    rcases (by omega : j = 0 ∨ j = 1 ∨ j = 2 ∨ j = 3 ∨ j = 4) with rfl | rfl | rfl | rfl | rfl
    · exact ⟨trivial, by simp [rrF, atomsL], by simp [rrF, sumT], by simp [rrF]⟩
    · exact ⟨x1, by show ((atomsL (rrS [] _)).length : Int) ≤ _; omega, by show sumT (rrS [] _) ≤ _; omega, by show (rrS [] _).length ≤ _; omega⟩
    · exact ⟨y1, by show ((atomsL (rrS (rrS [] _) _)).length : Int) ≤ _; omega, by show sumT (rrS (rrS [] _) _) ≤ _; omega, by show (rrS (rrS [] _) _).length ≤ _; omega⟩
    · exact ⟨z1, by show ((atomsL (rrS (rrS (rrS [] _) _) _)).length : Int) ≤ _; omega, by show sumT (rrS (rrS (rrS [] _) _) _) ≤ _; omega, by show (rrS (rrS (rrS [] _) _) _).length ≤ _; omega⟩
    · exact ⟨v1, by show ((atomsL (rrS (rrS (rrS (rrS [] _) _) _) _)).length : Int) ≤ _; omega, by show sumT (rrS (rrS (rrS (rrS [] _) _) _) _) ≤ _; omega, by show (rrS (rrS (rrS (rrS [] _) _) _) _).length ≤ _; omega⟩
  · obtain ⟨u1, u2, u3⟩ := rep_ed h n0 n1 a0 a1 k0 k1 hl
    refine nf_unique _ _ 0 0 v1 u1 ?_
    have f0 : (if 0 < at_ then atoms ⟨1, at_, ByteArray.empty⟩ else []) = List.replicate at_.toNat At.k := by
      split
      · exact atoms_keep _ _
      · rw [show at_.toNat = 0 from by omega]; rfl
    have f1 : (if 0 < (Lib.runeCount s : Int) then atoms ⟨2, (Lib.runeCount s : Int), s⟩ else []) = cs.map At.p := by
      split
      · exact atoms_put h
      · have : cs = [] := List.eq_nil_of_length_eq_zero (by omega)
        rw [this]; rfl
    have f2 : (if 0 < k then atoms ⟨3, k, ByteArray.empty⟩ else []) = List.replicate k.toNat At.d := by
      split
      · exact atoms_drop _ _
      · rw [show k.toNat = 0 from by omega]; rfl
    have f3 : (if 0 < n - at_ - k then atoms ⟨1, n - at_ - k, ByteArray.empty⟩ else []) = List.replicate (n - at_ - k).toNat At.k := by
      split
      · exact atoms_keep _ _
      · rw [show (n - at_ - k).toNat = 0 from by omega]; rfl
    rw [u2]
    show atomsL (rrS (rrS (rrS (rrS [] _) _) _) _) = _
    rw [v2, z2, y2, x2]
    simp only [f0, f1, f2, f3, atomsL, List.nil_append, List.append_assoc]
theorem rep_iff (n at_ k : Int) (s : ByteArray) : repB n at_ k s = true ↔ (0 ≤ n ∧ n ≤ 1099511627776 ∧ 0 ≤ at_ ∧ at_ ≤ n ∧ 0 ≤ k ∧ k ≤ n - at_ ∧ 0 ≤ runeV s.data.toList ∧ runeV s.data.toList ≤ 1099511627776 - n) := by
  unfold repB runeV
  cases h : Lib.validD s.data.toList with
  | false => simp
  | true =>
    rw [if_pos rfl]
    simp only [Array.toArray_toList, Bool.true_and, Bool.and_eq_true, decide_eq_true_eq]
    constructor
    · rintro ⟨⟨h1, h2⟩, ⟨h3, h4⟩, ⟨h5, h6⟩, h7⟩
      exact ⟨h1, h2, h3, h4, h5, h6, by omega, h7⟩
    · rintro ⟨h1, h2, h3, h4, h5, h6, _, h7⟩
      exact ⟨⟨h1, h2⟩, ⟨h3, h4⟩, ⟨h5, h6⟩, h7⟩
set_option maxRecDepth 100000 in
set_option maxHeartbeats 4000000 in
theorem rreplace_any (n at_ k : Int) (s : ByteArray) (w : World) (hs : s.size ≤ 140737488355328) :
    Calls Tryd.prog 37 #[.int .i64 n, .int .i64 at_, .int .i64 k, .string s] w fun r w' => RepR w w' n at_ k s r := by
  have hcv := Lib.run_convert_string_bytes (P := Tryd.prog) w 9 65 5 s Tryd.underlying9 Tryd.underlying65 Tryd.underlying5
  have HBY := hide (bw_bys w s)
  have HB1 := hide (bw_below w s)
  have HCA := hide (And.intro (grownCap_ge w s.size 0 5) (grownCap_le_maxLen w s.size 0 5 (by unfold maxLen; omega)))
  have HS := hide hs
  obtain ⟨cap, hcap⟩ : ∃ z, grownCap w s.size 0 5 = z := ⟨_, rfl⟩
  obtain ⟨W1, hW1⟩ : ∃ z, Lib.bytesWorld w 5 s = z := ⟨_, rfl⟩
  obtain ⟨g, hg⟩ : ∃ z, w.heap.size = z := ⟨_, rfl⟩
  rw [hcap] at hcv HCA
  rw [hW1] at hcv HBY HB1
  rw [hg] at hcv HBY
  clear hcap hW1 hg hs
  have HRU : Hid (Calls Tryd.prog 65 #[.slice (some ⟨g, 0, none⟩) s.size cap] W1 fun r w' => r = .returned (.int .i64 (runeV s.data.toList)) ∧ W1 = w') := hide (by have := runes_any g cap s.data.toList W1 (unhide HBY) (by rw [← Lib.size_eq]; exact (unhide HCA).1) (unhide HCA).2 (by rw [← Lib.size_eq]; have := unhide HS; omega) (some ⟨g, 0, none⟩) (fun _ => rfl); rw [← Lib.size_eq] at this; exact this)
  obtain ⟨mz, hmz⟩ : ∃ z, runeV s.data.toList = z := ⟨_, rfl⟩
  have HMZ := hide hmz
  rw [hmz] at HRU
  clear hmz HBY HCA
  unfold RepR
  by_cases h1 : n < 0
  · skip
    have HF : Hid (repB n at_ k s = false) := hide (by
      cases hh : repB n at_ k s with
      | false => rfl
      | true => have := (rep_iff n at_ k s).1 hh; have hz := unhide HMZ; omega)
    go_enter Tryd.func37, Tryd.ntmps37
    go_wp2_with fail
    refine Calls.mono (unhide HRU) ?_
    rintro r w2 ⟨rfl, rfl⟩
    go_wp2_with fail
    go_ret2
    exact ⟨.inl ⟨unhide HF, rfl⟩, unhide HB1⟩
  by_cases h2 : 1099511627776 < n
  · skip
    have HF : Hid (repB n at_ k s = false) := hide (by
      cases hh : repB n at_ k s with
      | false => rfl
      | true => have := (rep_iff n at_ k s).1 hh; have hz := unhide HMZ; omega)
    go_enter Tryd.func37, Tryd.ntmps37
    go_wp2_with fail
    refine Calls.mono (unhide HRU) ?_
    rintro r w2 ⟨rfl, rfl⟩
    go_wp2_with fail
    go_ret2
    exact ⟨.inl ⟨unhide HF, rfl⟩, unhide HB1⟩
  by_cases h3 : at_ < 0
  · skip
    have HF : Hid (repB n at_ k s = false) := hide (by
      cases hh : repB n at_ k s with
      | false => rfl
      | true => have := (rep_iff n at_ k s).1 hh; have hz := unhide HMZ; omega)
    go_enter Tryd.func37, Tryd.ntmps37
    go_wp2_with fail
    refine Calls.mono (unhide HRU) ?_
    rintro r w2 ⟨rfl, rfl⟩
    go_wp2_with fail
    go_ret2
    exact ⟨.inl ⟨unhide HF, rfl⟩, unhide HB1⟩
  by_cases h4 : n < at_
  · skip
    have HF : Hid (repB n at_ k s = false) := hide (by
      cases hh : repB n at_ k s with
      | false => rfl
      | true => have := (rep_iff n at_ k s).1 hh; have hz := unhide HMZ; omega)
    go_enter Tryd.func37, Tryd.ntmps37
    go_wp2_with fail
    refine Calls.mono (unhide HRU) ?_
    rintro r w2 ⟨rfl, rfl⟩
    go_wp2_with fail
    go_ret2
    exact ⟨.inl ⟨unhide HF, rfl⟩, unhide HB1⟩
  by_cases h5 : k < 0
  · skip
    have HF : Hid (repB n at_ k s = false) := hide (by
      cases hh : repB n at_ k s with
      | false => rfl
      | true => have := (rep_iff n at_ k s).1 hh; have hz := unhide HMZ; omega)
    go_enter Tryd.func37, Tryd.ntmps37
    go_wp2_with fail
    refine Calls.mono (unhide HRU) ?_
    rintro r w2 ⟨rfl, rfl⟩
    go_wp2_with fail
    go_ret2
    exact ⟨.inl ⟨unhide HF, rfl⟩, unhide HB1⟩
  have e1 : wrap64 (n - at_) = n - at_ := by unfold wrap64; omega
  by_cases h6 : n - at_ < k
  · skip
    have HF : Hid (repB n at_ k s = false) := hide (by
      cases hh : repB n at_ k s with
      | false => rfl
      | true => have := (rep_iff n at_ k s).1 hh; have hz := unhide HMZ; omega)
    go_enter Tryd.func37, Tryd.ntmps37
    go_wp2_with fail
    refine Calls.mono (unhide HRU) ?_
    rintro r w2 ⟨rfl, rfl⟩
    go_wp2_with fail
    go_ret2
    exact ⟨.inl ⟨unhide HF, rfl⟩, unhide HB1⟩
  by_cases h7 : mz < 0
  · skip
    have HF : Hid (repB n at_ k s = false) := hide (by
      cases hh : repB n at_ k s with
      | false => rfl
      | true => have := (rep_iff n at_ k s).1 hh; have hz := unhide HMZ; omega)
    go_enter Tryd.func37, Tryd.ntmps37
    go_wp2_with fail
    refine Calls.mono (unhide HRU) ?_
    rintro r w2 ⟨rfl, rfl⟩
    go_wp2_with fail
    go_ret2
    exact ⟨.inl ⟨unhide HF, rfl⟩, unhide HB1⟩
  have e2 : wrap64 (1099511627776 - n) = 1099511627776 - n := by unfold wrap64; omega
  by_cases h8 : 1099511627776 - n < mz
  · skip
    have HF : Hid (repB n at_ k s = false) := hide (by
      cases hh : repB n at_ k s with
      | false => rfl
      | true => have := (rep_iff n at_ k s).1 hh; have hz := unhide HMZ; omega)
    go_enter Tryd.func37, Tryd.ntmps37
    go_wp2_with fail
    refine Calls.mono (unhide HRU) ?_
    rintro r w2 ⟨rfl, rfl⟩
    go_wp2_with fail
    go_ret2
    exact ⟨.inl ⟨unhide HF, rfl⟩, unhide HB1⟩
  have HF : Hid (repB n at_ k s = true) := hide ((rep_iff n at_ k s).2 (by have := unhide HMZ; omega))
  obtain ⟨cs, hcs, b1, b2, b3, b4, b5, b6, b7⟩ := repB_has (unhide HF)
  obtain ⟨hfo, hfe⟩ := rep_fold hcs b1 b2 b3 b4 b5 b6 b7
  have HFO := hide hfo
  have HFE := hide hfe
  have hmz2 : (Lib.runeCount s : Int) = mz := by
    have := unhide HMZ
    unfold runeV at this
    split at this
    · simpa using this
    · omega
  have e3 : wrap64 (n - at_ - k) = n - at_ - k := by unfold wrap64; omega
  obtain ⟨ps, hps⟩ : ∃ z, repP n at_ k s = z := ⟨_, rfl⟩
  have HPS : Hid (ps = [⟨1, at_, ByteArray.empty⟩, ⟨2, mz, s⟩, ⟨3, k, ByteArray.empty⟩, ⟨1, n - at_ - k, ByteArray.empty⟩]) := hide (by rw [← hps, ← hmz2]; rfl)
  rw [hps] at HFO HFE
  have hm4 : mz ≤ 140737488355328 := by have h1 := hcs.count; have h2 := hcs.cps.len; have h3 := hcs.size; have h4 := unhide HS; omega
  clear hfo hfe hcs b1 b2 b3 b4 b5 b6 b7 hmz2 hps
  go_enter Tryd.func37, Tryd.ntmps37
  go_wp2_with fail
  refine Calls.mono (unhide HRU) ?_
  rintro r w2 ⟨rfl, rfl⟩
  clear hcv HRU
  go_wp2_with fail
  have HRW0 := hide (RowAt.new W1 32 [.int .i64 1, .int .i64 at_, .string ByteArray.empty, .int .i64 2, .int .i64 mz, .string s, .int .i64 3, .int .i64 k, .string ByteArray.empty, .int .i64 1, .int .i64 (n - at_ - k), .string ByteArray.empty])
  have hbL : Below W1.heap.size W1 (W1.alloc (.cells #[.int .i64 1, .int .i64 at_, .string ByteArray.empty, .int .i64 2, .int .i64 mz, .string s, .int .i64 3, .int .i64 k, .string ByteArray.empty, .int .i64 1, .int .i64 (n - at_ - k), .string ByteArray.empty] 32)) := (Below.refl _ _).alloc (Nat.le_refl _) _
  have HBL := hide ((unhide HB1).trans (hbL.mono (unhide HB1).size))
  obtain ⟨wL, hwL⟩ : ∃ z, W1.alloc (.cells #[.int .i64 1, .int .i64 at_, .string ByteArray.empty, .int .i64 2, .int .i64 mz, .string s, .int .i64 3, .int .i64 k, .string ByteArray.empty, .int .i64 1, .int .i64 (n - at_ - k), .string ByteArray.empty] 32) = z := ⟨_, rfl⟩
  obtain ⟨gl, hgl⟩ : ∃ z, W1.heap.size = z := ⟨_, rfl⟩
  rw [hwL, hgl] at HRW0
  rw [hwL] at HBL
  simp only [show ({ data := #[] } : ByteArray) = ByteArray.empty from rfl, hwL, hgl]
  have HPT : Hid (PtsAt wL (some ⟨gl, 0, none⟩) ps) := hide (row_pts (by rw [unhide HPS]; exact unhide HRW0))
  have HLN : Hid (ps.length = 4) := hide (by rw [unhide HPS]; rfl)
  have HPN : Hid (∀ p ∈ ps, p.n ≤ 1099511627776 ∧ p.text.size ≤ s.size) := hide (fun p hp => by
    rw [unhide HPS] at hp
    simp only [List.mem_cons, List.not_mem_nil, or_false] at hp
    have e0 : (ByteArray.empty).size = 0 := rfl
    rcases hp with rfl | rfl | rfl | rfl
    · exact ⟨by show at_ ≤ _; omega, by rw [e0]; omega⟩
    · exact ⟨by show mz ≤ _; omega, Nat.le_refl _⟩
    · exact ⟨by show k ≤ _; omega, by rw [e0]; omega⟩
    · exact ⟨by show n - at_ - k ≤ _; omega, by rw [e0]; omega⟩)
  clear hwL hgl hbL HRW0 HPS h1 h2 h3 h4 h5 h6 h7 h8 e1 e2 e3 hm4
  go_loopw [11, 68] (fun out i wr => ∃ kk : Nat, kk ≤ 4 ∧ i = .int .i64 (kk : Int) ∧ Hid (OwnP wr wL.heap.size out (rrF (ps.take kk))) ∧ Hid (Below wL.heap.size wL wr)) (fun _ i _ => ((4 : Int) - intOf i).toNat)
  case atStart => exact ⟨0, by omega, by simp, hide (OwnP.nil _ _), hide (Below.refl _ _)⟩
  case round =>
    obtain ⟨kk, hk, rfl, HOW, HB⟩ := hrel
    by_cases hlt : kk < 4
    · have kI : (kk : Int) < 4 := by omega
      obtain ⟨p, hpk⟩ : ∃ p, ps[kk]? = some p := ⟨_, List.getElem?_eq_getElem (by have := unhide HLN; omega)⟩
      obtain ⟨b, off, hbo, e0, e1, e2⟩ := (unhide HPT).at_ (unhide HB) hpk
      cases hbo
      simp only [Nat.zero_add] at e0 e1 e2
      have HST := hide (rrF_take hpk)
      have HRI := hide (unhide HFO kk (by omega))
      have HPP := hide (unhide HPN p (List.mem_of_getElem? hpk))
      have hbA : Below wr.heap.size wr (wr.alloc (.cells #[.int .i64 p.kind, .int .i64 p.n, .string p.text] 32)) := (Below.refl _ _).alloc (Nat.le_refl _) _
      have HOA := hide ((unhide HOW).call hbA)
      have HBA := hide ((unhide HB).trans (hbA.mono (unhide HB).size))
      have HRW := hide (RowAt.new wr 32 [.int .i64 p.kind, .int .i64 p.n, .string p.text])
      clear hpk hbA HOW
      by_cases hp0 : 0 < p.n
      · have HST : Hid (rrF (ps.take (kk + 1)) = oneL (rrF (ps.take kk)) p) := hide (by rw [unhide HST]; unfold rrS; rw [if_pos hp0])
        have HON := hide (one_own (w := wL) (p := p) (unhide HOA) (unhide HBA) (Nat.le_refl _) (by have := (unhide HRI).num; omega) (fun q hq _ => by
          have h1 := nf_num (unhide HRI).nf q (last_mem hq)
          have h2 := ((unhide HRI).nf.good q (last_mem hq)).1
          have h3 := (unhide HRI).len
          have h4 := sumT_mem (last_mem hq)
          have h5 := (unhide HRI).sum
          have h6 := unhide HPP
          have h7 := unhide HS
          omega))
        go_wp2_with fail
        refine Calls.mono (unhide HON) ?_
        rintro r w3 ⟨v3, rfl, ho3, hb3⟩
        have HO3 := hide ho3
        have HB3 := hide ((unhide HBA).trans (hb3.mono (unhide HBA).size))
        clear ho3 hb3 HON HOA HBA HRW e0 e1 e2
        go_wp2_with fail
        exact ⟨⟨kk + 1, by omega, by simp, by rw [unhide HST]; exact HO3, hide (unhide HB3)⟩, by simp [intOf]; omega⟩
      · have HST : Hid (rrF (ps.take (kk + 1)) = rrF (ps.take kk)) := hide (by rw [unhide HST]; unfold rrS; rw [if_neg hp0])
        go_wp2_with fail
        exact ⟨⟨kk + 1, by omega, by simp, by rw [unhide HST]; exact HOA, hide (unhide HBA)⟩, by simp [intOf]; omega⟩
    · obtain rfl : 4 = kk := by omega
      have HL : Hid (ps.take 4 = ps) := hide (List.take_of_length_le (by rw [unhide HLN]; exact Nat.le_refl _))
      rw [unhide HL, unhide HFE] at HOW
      have HB4 := hide ((unhide HBL).trans ((unhide HB).mono (unhide HBL).size))
      have HO4 := hide (own_base (unhide HOW) (unhide HBL).size)
      clear HOW HB HFO
      go_wp2_with fail
      go_ret2
      exact ⟨.inr ⟨unhide HF, _, rfl, unhide HO4⟩, unhide HB4⟩
end Go.Proofs.YtidblnjohkadhaaDoor
