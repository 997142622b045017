/- The document's reader, whatever the bytes are: texts. -/
import Derived.Test.YtbnfilhilgjnfaaDoorGRby
import Derived.Test.YtbnfilhilgjnfaaDoorERun
namespace Go.Proofs.YtbnfilhilgjnfaaDoor
set_option linter.unusedVariables false
set_option linter.unusedSimpArgs false
set_option maxRecDepth 100000
open Go.ChangeShapes Go.WideShapes Go.ChangeAt Go.RowKit Go.Joins

theorem rbytes_err (g : Nat) (v : Value) (k most : Nat) (e : Int) (w : World) (hr : RRd w g v k e) (he : ¬ e = 0) :
    Calls Tryd.prog 59 #[.pointer (some ⟨g, 0, none⟩), .int .i64 (most : Int)] w fun r w' => RbR ([], k, e) w g v r w' := by
  have c2 : w.cell? ⟨g, 2, none⟩ = some (.int .i64 e) := RowAt.cell hr 2
  have HR := hide hr
  have heb : (e != 0) = true := by simp [he]
  clear he hr
  go_enter Tryd.func59, Tryd.ntmps59
  go_wp2_with fail
  go_ret
  exact RbR.no (unhide HR) (Only.refl _ _)
theorem refNum_le (l : List Nat) : (Oc.refNum l).1 ≤ 9223372036854775807 := by
  unfold Oc.refNum
  split
  · simp
  · split
    · simp
    · rename_i h; simp only; omega
theorem refNum_8 {l : List Nat} (h : (Oc.refNum l).2 = 0) : 8 ≤ l.length := by
  unfold Oc.refNum at h
  split at h
  · cases h
  · omega
theorem rbytes_tot (g : Nat) (a : Option Addr) (n cap : Nat) (l : List Nat) (k most : Nat) (e : Int) (w : World) (hv : Byt w (.slice a n cap) l) (hgl : ∀ ad, a = some ad → 0 < n → ad.block ≠ g) (hr : RRd w g (.slice a n cap) k e) (hl : n ≤ 1000000000) (hk : k ≤ n) (h8 : U8 l) :
    Calls Tryd.prog 59 #[.pointer (some ⟨g, 0, none⟩), .int .i64 (most : Int)] w fun r w' => RbR (bytR l most k e) w g (.slice a n cap) r w' := by
  obtain ⟨hcm, hln, hcn⟩ := Oc.byt_cap (show Oc.Byt w (.slice a n cap) l from hv)
  unfold bytR
  by_cases he : e = 0
  · subst he
    rw [if_neg (by simp)]
    have short : k = n → Oc.refNum (l.drop k) = (0, 2) := fun h => by unfold Oc.refNum; rw [if_pos (by rw [List.length_drop]; omega)]
    cases a with
    | none =>
      obtain ⟨rfl, rfl, rfl⟩ : n = 0 ∧ cap = 0 ∧ l = [] := by
        rcases hv with ⟨h1, h2⟩ | ⟨a1, c1', h1, _⟩
        · injection h1 with _ h3 h4; exact ⟨h3, h4, h2⟩
        · cases h1
      obtain rfl : k = 0 := by omega
      have hN := Oc.refnum_any (.slice none 0 0) [] w.drew (.inl ⟨rfl, rfl⟩) (by decide) (fun y hy => by cases hy)
      have e2 := short rfl
      rw [show List.drop 0 ([] : List Nat) = [] from rfl] at e2 ⊢
      rw [e2] at hN ⊢
      rw [if_pos (by simp)]
      exact rbytes_none g most 2 w hr (by decide) hN
    | some a =>
      by_cases hck : cap = k
      · subst hck
        obtain rfl : n = cap := by omega
        have hN := Oc.refnum_any (.slice (some a) 0 0) [] w.drew (.inr ⟨a, 0, rfl, Nat.le_refl _, by decide, fun i y hy => by simp at hy⟩) (by decide) (fun y hy => by cases hy)
        have hd : l.drop n = [] := List.drop_eq_nil_of_le (by omega)
        have e2 := short rfl
        rw [hd] at e2
        rw [hd, e2, if_pos (by simp)]
        rw [e2] at hN
        exact rbytes_end g a n most 2 w hr (by decide) hl hN
      · have hN := Oc.refnum_any (.slice (some (a.add k)) (n - k) (cap - k)) (l.drop k) w.drew (((hv.call ((Below.refl _ _).drew)).drop k (by omega))) (by rw [List.length_drop]; omega) (fun y hy => h8 y (List.mem_of_mem_drop hy))
        have hbad := refNum_bad (l.drop k)
        have hle := refNum_le (l.drop k)
        have h88 : (Oc.refNum (l.drop k)).2 = 0 → k + 8 ≤ n := fun h => by have := refNum_8 h; rw [List.length_drop] at this; omega
        obtain ⟨x, hx⟩ : ∃ x, Oc.refNum (l.drop k) = x := ⟨_, rfl⟩
        rw [hx] at hN hbad hle h88 ⊢
        obtain ⟨u, z⟩ := x
        simp only at hN hbad hle h88 ⊢
        by_cases hz : z = 0
        · subst hz
          rw [if_neg (by simp)]
          by_cases h4 : most < u
          · rw [if_pos h4]
            exact rbytes_no4 g a n cap k most u w hr hl (h88 rfl) hcn hle h4 hN
          · rw [if_neg h4]
            by_cases h2 : l.length < k + 8 + u
            · rw [if_pos h2]
              exact rbytes_no2 g a n cap k most u w hr hl (h88 rfl) hcn hle (by omega) (by omega) hN
            · rw [if_neg h2]
              exact rbytes_ok g a n cap k most u l w hv (fun b hb hn => by rw [← hb]; exact hgl a rfl hn) hr hl (by omega) (by omega) hN
        · rw [if_pos hz]
          have hu := hbad hz
          subst hu
          exact rbytes_mid g a n cap k most z w hr hz hl hk hcn hck hN
  · rw [if_pos he]
    exact rbytes_err g _ k most e w hr he
theorem text_byt (l : List Nat) (k : Nat) (hk : k ≤ l.length) : Oc.textR l 256 k 0 = (if (bytR l 1024 k 0).2.2 ≠ 0 then (⟨#[]⟩, k, (bytR l 1024 k 0).2.2) else if Oc.rightE (Oc.strOf (bytR l 1024 k 0).1) 256 ≠ 0 then (⟨#[]⟩, k, Oc.rightE (Oc.strOf (bytR l 1024 k 0).1) 256) else (Oc.strOf (bytR l 1024 k 0).1, (bytR l 1024 k 0).2.1, 0)) := by
  unfold Oc.textR
  rw [if_neg (by simp)]
  by_cases h8 : l.length < k + 8
  · have r : Oc.refNum (l.drop k) = (0, 2) := by unfold Oc.refNum; rw [if_pos (by rw [List.length_drop]; omega)]
    have b : bytR l 1024 k 0 = ([], k, 2) := by unfold bytR; rw [if_neg (by simp), r, if_pos (by simp)]
    rw [if_pos h8, b, if_pos (by simp)]
  rw [if_neg h8]
  by_cases h63 : 9223372036854775807 < Oc.numOf ((l.drop k).take 8)
  · have r : Oc.refNum (l.drop k) = (0, 5) := by unfold Oc.refNum; rw [if_neg (by rw [List.length_drop]; omega), if_pos h63]
    have b : bytR l 1024 k 0 = ([], k, 5) := by unfold bytR; rw [if_neg (by simp), r, if_pos (by simp)]
    rw [if_pos h63, b, if_pos (by simp)]
  rw [if_neg h63]
  have r : Oc.refNum (l.drop k) = (Oc.numOf ((l.drop k).take 8), 0) := by unfold Oc.refNum; rw [if_neg (by rw [List.length_drop]; omega), if_neg h63]
  by_cases h4 : 4 * 256 < Oc.numOf ((l.drop k).take 8)
  · have b : bytR l 1024 k 0 = ([], k, 4) := by unfold bytR; rw [if_neg (by simp), r, if_neg (by simp), if_pos (by simp only; omega)]
    rw [if_pos h4, b, if_pos (by simp)]
  rw [if_neg h4]
  by_cases h2 : l.length < k + 8 + Oc.numOf ((l.drop k).take 8)
  · have b : bytR l 1024 k 0 = ([], k, 2) := by unfold bytR; rw [if_neg (by simp), r, if_neg (by simp), if_neg (by simp only; omega), if_pos h2]
    rw [if_pos h2, b, if_pos (by simp)]
  rw [if_neg h2]
  have b : bytR l 1024 k 0 = ((l.drop (k + 8)).take (Oc.numOf ((l.drop k).take 8)), k + 8 + Oc.numOf ((l.drop k).take 8), 0) := by unfold bytR; rw [if_neg (by simp), r, if_neg (by simp), if_neg (by simp only; omega), if_neg h2]
  rw [b]
  refine Eq.trans ?_ (if_neg (fun h => h rfl)).symm
  rfl
theorem bytR_k (l : List Nat) (m k : Nat) (h : ¬ (bytR l m k 0).2.2 = 0) : (bytR l m k 0).2.1 = k := by
  unfold bytR at h ⊢
  repeat' split
  all_goals first | rfl | (exfalso; simp_all)
def RtR (x : ByteArray × Nat × Int) (w : World) (g : Nat) (v : Value) (r : Ending) (w' : World) : Prop := r = .returned (.string x.1) ∧ RRd w' g v x.2.1 x.2.2 ∧ Only (· = g) w w'
theorem bytR_8 {l : List Nat} (h8 : U8 l) (m k : Nat) (e : Int) : U8 (bytR l m k e).1 := by
  unfold bytR
  repeat' split
  all_goals first | (intro y hy; cases hy) | exact fun y hy => h8 y (List.mem_of_mem_drop (List.mem_of_mem_take hy))
theorem bytR_len (l : List Nat) (m k : Nat) (e : Int) : (bytR l m k e).1.length ≤ l.length := by
  unfold bytR
  repeat' split
  all_goals first | exact Nat.zero_le _ | (simp only [List.length_take, List.length_drop]; omega)
theorem runes_of {W : World} {B : Nat} {v : Value} {x : List Nat} (h : W.ownsRow B 5 1 v x.length (bv x)) (h8 : U8 x) (hl : x.length ≤ 1000000000) :
    Calls Tryd.prog 60 #[v] W fun r w' => r = .returned (.int .i64 (Ed.runeV (Oc.strOf x).data.toList)) ∧ W = w' := by
  have hb := Byt.of_own h
  have hsz : (Oc.strOf x).data.toList.length = x.length := by rw [← Lib.size_eq, Oc.strOf_size]
  rcases h.2 with ⟨rfl, h0⟩ | ⟨g, cap, cur, rfl, _, _, hc, hm, _⟩
  · have hx : x = [] := List.eq_nil_of_length_eq_zero h0
    subst hx
    exact Ed.runes_any 0 0 [] W (fun j b hj => by simp at hj) (Nat.le_refl _) (by decide) (by simp) none (fun h => absurd rfl h)
  · have hq := Ed.runes_any g cap (Oc.strOf x).data.toList W (fun j b hj => by
      rcases hb with ⟨e, _⟩ | ⟨a, c, e, _, _, h3⟩
      · cases e
      · injection e with e1 _ _
        injection e1 with e1
        subst e1
        have hjl : j < x.length := by
          rcases Nat.lt_or_ge j x.length with h | h
          · exact h
          · rw [List.getElem?_eq_none (by omega)] at hj; cases hj
        have h4 := h3 j x[j] (List.getElem?_eq_getElem hjl)
        rw [add_plain, Nat.zero_add] at h4
        rw [h4]
        have h5 : (Oc.strOf x).data.toList[j]? = some (UInt8.ofNat x[j]) := by
          simp [Oc.strOf, List.getElem?_map, List.getElem?_eq_getElem hjl]
        rw [h5] at hj
        cases hj
        have h6 := h8 x[j] (List.getElem_mem hjl)
        simp
        omega) (by omega) hm (by omega) (some ⟨g, 0, none⟩) (fun _ => rfl)
    rw [hsz] at hq
    exact hq
set_option maxHeartbeats 4000000 in
theorem rtext_tot (g : Nat) (a : Option Addr) (n cap : Nat) (l : List Nat) (k : Nat) (e : Int) (w : World) (hv : Byt w (.slice a n cap) l) (hgl : ∀ ad, a = some ad → 0 < n → ad.block ≠ g) (hr : RRd w g (.slice a n cap) k e) (hl : n ≤ 1000000000) (hk : k ≤ n) (h8 : U8 l) :
    Calls Tryd.prog 41 #[.pointer (some ⟨g, 0, none⟩), .int .i64 256] w fun r w' => RtR (Oc.textR l 256 k e) w g (.slice a n cap) r w' := by
  have c1 : w.cell? ⟨g, 1, none⟩ = some (.int .i64 (k : Int)) := RowAt.cell hr 1
  have c2 : w.cell? ⟨g, 2, none⟩ = some (.int .i64 e) := RowAt.cell hr 2
  have HR := hide hr
  have HV := hide hv
  have hln := (Oc.byt_cap (show Oc.Byt w (.slice a n cap) l from hv)).2.1
  by_cases he : e = 0
  · subst he
    have HB := hide (rbytes_tot g a n cap l k 1024 0 w hv hgl hr hl hk h8)
    have HX8 := hide (bytR_8 h8 1024 k 0)
    have HXL : Hid ((bytR l 1024 k 0).1.length ≤ 1000000000) := hide (by have := bytR_len l 1024 k 0; omega)
    rw [text_byt l k (by omega)]
    obtain ⟨x, hx⟩ : ∃ x, bytR l 1024 k 0 = x := ⟨_, rfl⟩
    rw [hx] at HB HX8 HXL ⊢
    have HK2 : Hid (¬ x.2.2 = 0 → x.2.1 = k) := hide (fun h => by rw [← hx] at h ⊢; exact bytR_k l 1024 k h)
    obtain ⟨xs, k2, z⟩ := x
    simp only at HK2 ⊢
    clear hx hv hr h8 hgl hln
    by_cases hz : z = 0
    · subst hz
      rw [if_neg (by simp)]
      obtain ⟨t, ht⟩ : ∃ t, Oc.strOf xs = t := ⟨_, rfl⟩
      rw [ht]
      have HTT := hide ht
      have HRV : Hid (Ed.runeV t.data.toList = if Lib.validD t.data.toList = true then (Lib.runeCount t : Int) else -1) := hide rfl
      cases hV : Lib.validD t.data.toList with
      | false =>
        have HRE : Hid (Oc.rightE t 256 = 21) := hide (by unfold Oc.rightE; rw [if_pos hV])
        have HRU : Hid (Ed.runeV t.data.toList = -1) := hide (by rw [unhide HRV, if_neg (by rw [hV]; simp)])
        rw [unhide HRE, if_pos (by simp)]
        clear hV HRE ht
        go_enter Tryd.func41, Tryd.ntmps41
        go_wp2_with fail
        refine Calls.mono (unhide HB) ?_
        rintro r w1 ⟨v1, rfl, o1, r1, b1⟩
        have d2 : w1.cell? ⟨g, 2, none⟩ = some (.int .i64 0) := RowAt.cell r1 2
        have d1 : w1.cell? ⟨g, 1, none⟩ = some (.int .i64 (k2 : Int)) := RowAt.cell r1 1
        have z1 := RowAt.frozen r1 1
        have z2 := RowAt.frozen r1 2
        have HRN := hide (runes_of o1 (unhide HX8) (unhide HXL))
        rw [unhide HTT, unhide HRU] at HRN
        have HRR : Hid (RRd ((w1.setCell ⟨g, 2, none⟩ (.int .i64 21)).setCell ⟨g, 1, none⟩ (.int .i64 (k : Int))) g (.slice a n cap) k 21) := hide (RowAt.set (RowAt.set r1 2 (.int .i64 21)) 1 (.int .i64 (k : Int)))
        have HOO := hide (Only.set (p := fun x => x = g) (Only.set (p := fun x => x = g) b1 g 2 (.int .i64 21) rfl) g 1 (.int .i64 (k : Int)) rfl)
        clear o1 r1 b1
        go_wp2_with fail
        refine Calls.mono (unhide HRN) ?_
        rintro r wq ⟨rfl, rfl⟩
        go_wp2_with fail
        go_ret
        exact ⟨rfl, unhide HRR, unhide HOO⟩
      | true =>
        have HRU : Hid (Ed.runeV t.data.toList = (Lib.runeCount t : Int)) := hide (by rw [unhide HRV, if_pos hV])
        by_cases hq : 256 < Lib.runeCount t
        · have HRE : Hid (Oc.rightE t 256 = 4) := hide (by unfold Oc.rightE; rw [if_neg (by rw [hV]; simp), if_pos hq])
          rw [unhide HRE, if_pos (by simp)]
          obtain ⟨rc, hrc⟩ : ∃ z, Lib.runeCount t = z := ⟨_, rfl⟩
          rw [hrc] at HRU hq
          have q0 : ¬ (rc : Int) < 0 := by omega
          have q1 : (256 : Int) < (rc : Int) := by omega
          clear hV HRE ht hrc
          go_enter Tryd.func41, Tryd.ntmps41
          go_wp2_with fail
          refine Calls.mono (unhide HB) ?_
          rintro r w1 ⟨v1, rfl, o1, r1, b1⟩
          have d2 : w1.cell? ⟨g, 2, none⟩ = some (.int .i64 0) := RowAt.cell r1 2
          have d1 : w1.cell? ⟨g, 1, none⟩ = some (.int .i64 (k2 : Int)) := RowAt.cell r1 1
          have z1 := RowAt.frozen r1 1
          have z2 := RowAt.frozen r1 2
          have HRN := hide (runes_of o1 (unhide HX8) (unhide HXL))
          rw [unhide HTT, unhide HRU] at HRN
          have HRR : Hid (RRd ((w1.setCell ⟨g, 2, none⟩ (.int .i64 4)).setCell ⟨g, 1, none⟩ (.int .i64 (k : Int))) g (.slice a n cap) k 4) := hide (RowAt.set (RowAt.set r1 2 (.int .i64 4)) 1 (.int .i64 (k : Int)))
          have HOO := hide (Only.set (p := fun x => x = g) (Only.set (p := fun x => x = g) b1 g 2 (.int .i64 4) rfl) g 1 (.int .i64 (k : Int)) rfl)
          clear o1 r1 b1
          go_wp2_with fail
          refine Calls.mono (unhide HRN) ?_
          rintro r wq ⟨rfl, rfl⟩
          go_wp2_with fail
          go_ret
          exact ⟨rfl, unhide HRR, unhide HOO⟩
        · have HRE : Hid (Oc.rightE t 256 = 0) := hide (by unfold Oc.rightE; rw [if_neg (by rw [hV]; simp), if_neg hq])
          rw [unhide HRE, if_neg (by simp)]
          obtain ⟨rc, hrc⟩ : ∃ z, Lib.runeCount t = z := ⟨_, rfl⟩
          rw [hrc] at HRU hq
          have q0 : ¬ (rc : Int) < 0 := by omega
          have q1 : ¬ (256 : Int) < (rc : Int) := by omega
          clear hV HRE ht hrc
          go_enter Tryd.func41, Tryd.ntmps41
          go_wp2_with fail
          refine Calls.mono (unhide HB) ?_
          rintro r w1 ⟨v1, rfl, o1, r1, b1⟩
          have d2 : w1.cell? ⟨g, 2, none⟩ = some (.int .i64 0) := RowAt.cell r1 2
          have HRN := hide (runes_of o1 (unhide HX8) (unhide HXL))
          rw [unhide HTT, unhide HRU] at HRN
          have hcv := byt_convert (Byt.of_own o1) (unhide HX8)
          rw [show strOf xs = t from unhide HTT] at hcv
          have HR1 := hide r1
          have HO1 := hide b1
          clear o1 r1 b1
          go_wp2_with fail
          refine Calls.mono (unhide HRN) ?_
          rintro r wq ⟨rfl, rfl⟩
          go_wp2_with fail
          go_ret
          exact ⟨rfl, unhide HR1, unhide HO1⟩
    · rw [if_pos hz]
      have hzb : (z != 0) = true := by simp [hz]
      go_enter Tryd.func41, Tryd.ntmps41
      go_wp2_with fail
      refine Calls.mono (unhide HB) ?_
      rintro r w1 ⟨v1, rfl, o1, r1, b1⟩
      have d2 : w1.cell? ⟨g, 2, none⟩ = some (.int .i64 z) := RowAt.cell r1 2
      have HR1 := hide r1
      have HO1 := hide b1
      clear o1 r1 b1
      go_wp2_with fail
      go_ret
      exact ⟨rfl, by have h := unhide HR1; rw [unhide HK2 hz] at h; exact h, unhide HO1⟩
  · have hn : Oc.textR l 256 k e = (⟨#[]⟩, k, e) := by unfold Oc.textR; rw [if_pos he]
    rw [hn]
    have heb : (e != 0) = true := by simp [he]
    clear he hr hv
    go_enter Tryd.func41, Tryd.ntmps41
    go_wp2_with fail
    go_ret
    exact ⟨rfl, unhide HR, Only.refl _ _⟩
end Go.Proofs.YtbnfilhilgjnfaaDoor
