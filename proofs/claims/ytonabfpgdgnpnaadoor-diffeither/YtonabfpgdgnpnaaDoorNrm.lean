/- Norm: parts in their one form. -/
import Derived.Test.YtonabfpgdgnpnaaDoorAdd
import Derived.Test.YtonabfpgdgnpnaaDoorFit
namespace Go.Proofs.YtonabfpgdgnpnaaDoor
set_option linter.unusedVariables false
set_option linter.unusedSimpArgs false
open Go.ChangeShapes Go.WideShapes Go.ChangeAt Go.RowKit Go.Joins Go.Deep

theorem endK_len (st : St) : (endK st).done.length ≤ st.done.length + 1 := by
  unfold endK
  simp only
  split <;> first | omega | (simp; done) | (simp; omega)
def allS (st : St) : List Pt := (endC (endK st)).done
set_option maxRecDepth 100000 in
set_option maxHeartbeats 4000000 in
theorem all_ok (w0 : World) (B g : Nat) (st : St) (w : World) (h : Sh w0 w B g st none) (hl : st.done.length + 2 < 4398046511104) (ht : 0 < st.puts → st.text ≠ []) :
    Calls Tryd.prog 77 #[.pointer (some ⟨g, 0, none⟩)] w fun r w' => ∃ v, r = .returned v ∧ w'.ownsRow B 39 3 v (allS st).length (ptc (allS st)) ∧ Below B w0 w' := by
  have HS := hide h
  have HT := hide ht
  clear h ht
  go_enter Tryd.func77, Tryd.ntmps77
  go_wp2_with fail
  refine Calls.mono (endKeep_ok w0 B g st none w (unhide HS) (by omega)) ?_
  rintro r w1 ⟨rfl, h1⟩
  have HS1 := hide h1
  clear h1 HS
  go_wp2_with fail
  refine Calls.mono (endChange_ok w0 B g (endK st) none w1 (unhide HS1) (by have := endK_len st; omega) (unhide HT)) ?_
  rintro r w2 ⟨rfl, dv, av, bv, hp, hr⟩
  have HR := hide hr
  clear hr hp HS1
  have c0 : w2.cell? ⟨g, 0, none⟩ = some dv := (unhide HR).row.cell 0
  go_wp2_with fail
  go_ret
  exact ⟨_, rfl, (unhide HR).parts, (unhide HR).bel⟩
/-- the state behind these parts -/
def normSt (l : List Pt) : St := l.foldl (fun st p => if fitsB p then addS st p else st) ⟨[], 0, 0, 0, []⟩
def normL (l : List Pt) : List Pt := allS (normSt l)
theorem normSt_take {l : List Pt} {i : Nat} {p : Pt} (h : l[i]? = some p) : normSt (l.take (i + 1)) = if fitsB p then addS (normSt (l.take i)) p else normSt (l.take i) := by
  unfold normSt
  rw [List.take_add_one, h, List.foldl_append]
  rfl
/-- bounds of a state -/
structure SOk (st : St) (k m : Nat) : Prop where
  a0 : 0 ≤ st.kept
  a1 : st.kept ≤ 9223372036854775807
  b0 : 0 ≤ st.drops
  b1 : st.drops ≤ 9223372036854775807
  c0 : 0 ≤ st.puts
  c1 : st.puts ≤ 9223372036854775807
  len : st.done.length ≤ 2 * k
  txt : st.text.length ≤ m
  put : 0 < st.puts → st.text ≠ []
theorem plusN_ok {a b : Int} (a0 : 0 ≤ a) (a1 : a ≤ 9223372036854775807) (b0 : 0 ≤ b) (b1 : b ≤ 9223372036854775807) : 0 ≤ plusN a b ∧ plusN a b ≤ 9223372036854775807 := by
  unfold plusN
  split <;> omega
theorem fitsB_has {p : Pt} (h : fitsB p = true) : 1 ≤ p.n ∧ p.n ≤ 1099511627776 ∧ (p.kind = 1 ∧ p.text.size = 0 ∨ p.kind = 3 ∧ p.text.size = 0 ∨ p.kind = 2 ∧ Lib.validD p.text.data.toList = true ∧ (Lib.runeCount p.text : Int) = p.n) := by
  unfold fitsB at h
  simp only [Bool.and_eq_true, Bool.or_eq_true, decide_eq_true_eq] at h
  obtain ⟨⟨h1, h2⟩, h3⟩ := h
  refine ⟨h1, h2, ?_⟩
  rcases h3 with ⟨h3 | h3, h4⟩ | ⟨h3, h4⟩
  · exact .inl ⟨h3, h4⟩
  · exact .inr (.inl ⟨h3, h4⟩)
  · exact .inr (.inr ⟨h3, h4⟩)
theorem fits_text {p : Pt} (h : fitsB p = true) (hk : p.kind = 2) : p.text.data.toList ≠ [] := by
  obtain ⟨h1, h2, h3⟩ := fitsB_has h
  rcases h3 with h3 | h3 | h3
  · omega
  · omega
  · intro e
    have ht : Tx p.text [] := ⟨Cps.nil, e⟩
    have := ht.count
    have h4 := h3.2.2
    rw [this] at h4
    simp at h4
    omega
theorem SOk.add {st : St} {k m : Nat} (h : SOk st k m) {p : Pt} (hf : fitsB p = true) : SOk (addS st p) (k + 1) (m + p.text.size) := by
  obtain ⟨a0, a1, b0, b1, c0, c1, hl, ht, hu⟩ := h
  obtain ⟨h1, h2, h3⟩ := fitsB_has hf
  have ek : (endK st).done.length ≤ 2 * k + 1 := by unfold endK; simp only; split <;> first | omega | (simp; done) | (simp; omega)
  have ec : (endC st).done.length ≤ 2 * k + 2 := by unfold endC; simp only; split <;> split <;> first | (simp; done) | (simp; omega) | omega
  unfold addS
  split
  · have q := plusN_ok a0 a1 (b := p.n) (by omega) (by omega)
    exact ⟨q.1, q.2, by simp, by simp, by simp, by simp, by simp; omega, by simp, by simp⟩
  · split
    · have q := plusN_ok b0 b1 (b := p.n) (by omega) (by omega)
      exact ⟨by simp, by simp, q.1, q.2, c0, c1, by simp; omega, by simp; omega, hu⟩
    · have q := plusN_ok c0 c1 (b := p.n) (by omega) (by omega)
      refine ⟨by simp, by simp, b0, b1, q.1, q.2, by simp; omega, by simp; omega, fun _ e => ?_⟩
      have := fits_text hf (by omega)
      simp at e
      exact this (by simpa using e.2)
def sumT (l : List Pt) : Nat := (l.map (fun p => p.text.size)).sum
theorem sumT_snoc (l : List Pt) (p : Pt) : sumT (l ++ [p]) = sumT l + p.text.size := by simp [sumT]
theorem sumT_take {l : List Pt} {i : Nat} {p : Pt} (h : l[i]? = some p) : sumT (l.take (i + 1)) = sumT (l.take i) + p.text.size := by
  rw [List.take_add_one, h]
  exact sumT_snoc _ _
theorem sumT_le (l : List Pt) (i : Nat) : sumT (l.take i) ≤ sumT l := by
  have h : sumT l = sumT (l.take i) + sumT (l.drop i) := by
    unfold sumT
    rw [← List.sum_append, ← List.map_append, List.take_append_drop]
  omega
theorem sumT_mem {l : List Pt} {p : Pt} (h : p ∈ l) : p.text.size ≤ sumT l := by
  obtain ⟨i, hi⟩ := List.getElem?_of_mem h
  have := sumT_take hi
  have := sumT_le l (i + 1)
  omega
theorem normSt_ok (l : List Pt) : ∀ i, SOk (normSt (l.take i)) i (sumT (l.take i))
  | 0 => ⟨by simp [normSt], by simp [normSt], by simp [normSt], by simp [normSt], by simp [normSt], by simp [normSt], by simp [normSt], by simp [normSt], by simp [normSt]⟩
  | i + 1 => by
    have ih := normSt_ok l i
    cases hp : l[i]? with
    | none =>
      have hi : l.length ≤ i := by simpa using hp
      rw [List.take_of_length_le (by omega)]
      rw [List.take_of_length_le (by omega)] at ih
      exact ⟨ih.a0, ih.a1, ih.b0, ih.b1, ih.c0, ih.c1, by have := ih.len; omega, ih.txt, ih.put⟩
    | some p =>
      rw [normSt_take hp, sumT_take hp]
      cases hf : fitsB p with
      | true => rw [if_pos rfl]; exact ih.add hf
      | false =>
        rw [if_neg (by simp)]
        exact ⟨ih.a0, ih.a1, ih.b0, ih.b1, ih.c0, ih.c1, by have := ih.len; omega, by have := ih.txt; omega, ih.put⟩
/-- a new sheet -/
theorem sheet_new (w : World) : Sh w (w.alloc (.cells #[.slice none 0 0, .int .i64 0, .int .i64 0, .int .i64 0, .pointer none, .slice none 0 0] 119)) w.heap.size w.heap.size ⟨[], 0, 0, 0, []⟩ none :=
  ⟨.slice none 0 0, .pointer none, .slice none 0 0, .inl rfl, RowAt.new w 119 _, World.ownsRow_nil _ _ _ _, fun x e => (by
    obtain rfl : [] = x := by simpa using e
    exact World.ownsRow_nil _ _ _ _), (Below.refl _ _).alloc (Nat.le_refl _) _, by simp, Nat.le_refl _, fun q cs e => by cases e⟩
theorem Sh.bel {w0 w : World} {B g : Nat} {st : St} {bx : Option (Nat × List Value)} (h : Sh w0 w B g st bx) : Below B w0 w := by
  obtain ⟨dv, av, bv, h1, h2⟩ := h
  exact h2.bel
set_option maxRecDepth 100000 in
set_option maxHeartbeats 4000000 in
theorem norm_any (a : Option Addr) (l : List Pt) (c : Nat) (w : World) (hT : UT w) (hp : PtsAt w a l) (hc : l.length ≤ 2199023255540) (hs : sumT l ≤ 140737488355328) :
    Calls Tryd.prog 53 #[.slice a l.length c] w fun r w' => ∃ v, r = .returned v ∧ w'.ownsRow w.heap.size 39 3 v (normL l).length (ptc (normL l)) ∧ Below w.heap.size w w' := by
  have HT := hide hT
  have HP := hide hp
  have HS := hide hs
  obtain ⟨n, hn⟩ : ∃ n, l.length = n := ⟨_, rfl⟩
  rw [hn] at hc ⊢
  have HN := hide hn
  have nI : (n : Int) ≤ 9223372036854775807 := by omega
  have HZ := hide (sheet_new w)
  clear hT hp hs hn
  go_enter Tryd.func53, Tryd.ntmps53
  go_wp2_with fail
  go_loopw [8] (fun i wr => ∃ k : Nat, k ≤ n ∧ i = .int .i64 (k : Int) ∧ Hid (Sh w wr w.heap.size w.heap.size (normSt (l.take k)) none)) (fun i _ => ((n : Int) - intOf i).toNat)
  case atStart => exact ⟨0, by omega, by simp, HZ⟩
  case round =>
    obtain ⟨k, hk, rfl, HSH⟩ := hrel
    have HB := hide (unhide HSH).bel
    have HOK := hide (normSt_ok l k)
    by_cases hlt : k < n
    · have kI : (k : Int) < (n : Int) := by omega
      obtain ⟨p, hpk⟩ : ∃ p, l[k]? = some p := ⟨_, List.getElem?_eq_getElem (by have := unhide HN; omega)⟩
      obtain ⟨b, off, rfl, e0, e1, e2⟩ := (unhide HP).at_ (unhide HB) hpk
      have HST := hide (normSt_take hpk)
      have HSM : Hid (sumT (l.take k) + p.text.size ≤ 140737488355328) := hide (by have := sumT_take hpk; have := sumT_le l (k + 1); have := unhide HS; omega)
      have hbA : Below wr.heap.size wr (wr.alloc (.cells #[.int .i64 p.kind, .int .i64 p.n, .string p.text] 39)) := (Below.refl _ _).alloc (Nat.le_refl _) _
      have HSA := hide ((unhide HSH).call hbA)
      have HBA := hide ((unhide HB).trans (hbA.mono (unhide HB).size))
      have HRW := hide (RowAt.new wr 39 [.int .i64 p.kind, .int .i64 p.n, .string p.text])
      have HFI := hide (fits_any p (wr.alloc (.cells #[.int .i64 p.kind, .int .i64 p.n, .string p.text] 39)) ((unhide HT).call (unhide HBA)) (by have := unhide HSM; omega))
      clear hpk hbA HSH
      go_wp2_with fail
      obtain ⟨wA, hA⟩ : ∃ wA, wr.alloc (.cells #[.int .i64 p.kind, .int .i64 p.n, .string p.text] 39) = wA := ⟨_, rfl⟩
      rw [hA] at HBA HRW HFI HSA ⊢
      clear hA HB e0 e1 e2
      obtain ⟨bb, hbb⟩ : ∃ bb, wr.heap.size = bb := ⟨_, rfl⟩
      rw [hbb] at HRW ⊢
      clear hbb
      refine Calls.mono (unhide HFI) ?_
      rintro r w2 ⟨rfl, hb2⟩
      have HS2 := hide ((unhide HSA).call hb2)
      have HR2 := hide ((unhide HRW).below hb2 (unhide HRW).lt)
      clear hb2 HBA HRW HFI HSA
      have r0 : w2.cell? ⟨bb, 0, none⟩ = some (.int .i64 p.kind) := (unhide HR2).cell 0
      have r1 : w2.cell? ⟨bb, 1, none⟩ = some (.int .i64 p.n) := (unhide HR2).cell 1
      have r2 : w2.cell? ⟨bb, 2, none⟩ = some (.string p.text) := (unhide HR2).cell 2
      cases hfb : fitsB p with
      | false =>
        rw [hfb, if_neg (by simp)] at HST
        clear hfb
        go_wp2_with fail
        exact ⟨⟨k + 1, by omega, by simp, by rw [unhide HST]; exact HS2⟩, by simp [intOf]; omega⟩
      | true =>
        rw [hfb, if_pos rfl] at HST
        have HF := hide (fitsB_has hfb)
        have HAD := hide (add_ok w w.heap.size w.heap.size (normSt (l.take k)) p w2 (unhide HS2) (by have := (unhide HOK).len; omega) (unhide HOK).put (by rcases (unhide HF).2.2 with h | h | h <;> omega) (by have := (unhide HF).1; omega) (by have := (unhide HF).2.1; omega) (unhide HOK).a0 (unhide HOK).a1 (unhide HOK).b0 (unhide HOK).b1 (unhide HOK).c0 (unhide HOK).c1 (by have := (unhide HOK).txt; have := unhide HSM; omega))
        clear hfb
        go_wp2_with fail
        refine Calls.mono (unhide HAD) ?_
        rintro r w3 ⟨rfl, h3⟩
        have HS3 := hide h3
        clear h3 HAD HS2 r0 r1 r2
        go_wp2_with fail
        exact ⟨⟨k + 1, by omega, by simp, by rw [unhide HST]; exact HS3⟩, by simp [intOf]; omega⟩
    · obtain rfl : n = k := by omega
      have kI : ¬ (n : Int) < (n : Int) := by omega
      have HL : Hid (l.take n = l) := hide (List.take_of_length_le (by rw [unhide HN]; exact Nat.le_refl _))
      rw [unhide HL] at HSH HOK
      go_wp2_with fail
      refine Calls.mono (all_ok w w.heap.size w.heap.size (normSt l) wr (unhide HSH) (by have := (unhide HOK).len; omega) (unhide HOK).put) ?_
      rintro r w3 ⟨v, rfl, hv, hb⟩
      have HV := hide hv
      have HB3 := hide hb
      clear hv hb HSH
      go_wp2_with fail
      go_ret
      exact ⟨v, rfl, unhide HV, unhide HB3⟩
end Go.Proofs.YtonabfpgdgnpnaaDoor
