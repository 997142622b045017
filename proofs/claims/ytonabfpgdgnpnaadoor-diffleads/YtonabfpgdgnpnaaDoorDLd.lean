/- The edit that leads from one text to the other. -/
import Derived.Test.YtonabfpgdgnpnaaDoorDTa
import Derived.Test.YtonabfpgdgnpnaaDoorPrn
import Derived.Test.YtonabfpgdgnpnaaDoorApd
namespace Go.Proofs.YtonabfpgdgnpnaaDoor
set_option linter.unusedVariables false
set_option linter.unusedSimpArgs false
open Go.ChangeShapes Go.WideShapes Go.ChangeAt Go.RowKit Go.Joins Go.Deep

theorem infoPt : (Tryd.prog.info? 39).map (fun i => (i.zero, i.size, i.bytes)) = some (some (.agg #[.int .i64 0, .int .i64 0, .string ⟨#[]⟩]), 3, 32) := by kernel_rfl
theorem sumT_app (l : List Pt) (p : Pt) : sumT (l ++ [p]) = sumT l + p.text.size := sumT_snoc l p
theorem fits_put {n : Nat} {s : ByteArray} {ws : List (List UInt8)} (h : Tx s ws) (hn : ws.length = n) (h1 : 1 ≤ n) (h2 : n ≤ 1099511627776) : fitsB ⟨2, (n : Int), s⟩ = true :=
  fits_of_good ⟨by show (1 : Int) ≤ n; omega, .inr (.inr ⟨rfl, ws, h, by show (ws.length : Int) = n; omega⟩)⟩ (by show (n : Int) ≤ _; omega)
theorem one_k (n : Int) (h2 : n ≤ 1099511627776) : atomsL (([⟨1, n, ⟨#[]⟩⟩] : List Pt).filter fitsB) = List.replicate n.toNat .k := by
  by_cases h : 1 ≤ n
  · have hf : fitsB ⟨1, n, ⟨#[]⟩⟩ = true := fits_of_good ⟨h, .inl ⟨rfl, rfl⟩⟩ h2
    rw [List.filter_cons_of_pos hf, List.filter_nil, atomsL_one]
    exact atoms_keep _ _
  · have hf : ¬ fitsB ⟨1, n, ⟨#[]⟩⟩ = true := fun hf => by
      have := (fitsB_has hf).1
      exact h this
    rw [List.filter_cons_of_neg hf, List.filter_nil, show n.toNat = 0 by omega]
    rfl
theorem one_d (n : Int) (h2 : n ≤ 1099511627776) : atomsL (([⟨3, n, ⟨#[]⟩⟩] : List Pt).filter fitsB) = List.replicate n.toNat .d := by
  by_cases h : 1 ≤ n
  · have hf : fitsB ⟨3, n, ⟨#[]⟩⟩ = true := fits_of_good ⟨h, .inr (.inl ⟨rfl, rfl⟩)⟩ h2
    rw [List.filter_cons_of_pos hf, List.filter_nil, atomsL_one]
    exact atoms_drop _ _
  · have hf : ¬ fitsB ⟨3, n, ⟨#[]⟩⟩ = true := fun hf => by
      have := (fitsB_has hf).1
      exact h this
    rw [List.filter_cons_of_neg hf, List.filter_nil, show n.toNat = 0 by omega]
    rfl
theorem one_p {n : Nat} {s : ByteArray} {ws : List (List UInt8)} (h : Tx s ws) (hn : ws.length = n) (h2 : n ≤ 1099511627776) : atomsL (([⟨2, (n : Int), s⟩] : List Pt).filter fitsB) = ws.map .p := by
  by_cases h1 : 1 ≤ n
  · rw [List.filter_cons_of_pos (fits_put h hn h1 h2), List.filter_nil, atomsL_one]
    exact atoms_put h
  · have hf : ¬ fitsB ⟨2, (n : Int), s⟩ = true := fun hf => by
      have : (1 : Int) ≤ n := (fitsB_has hf).1
      omega
    rw [List.filter_cons_of_neg hf, List.filter_nil]
    obtain rfl : ws = [] := List.length_eq_zero_iff.1 (by omega)
    rfl
theorem drop_at {x : List CP} {i : Nat} {c : CP} (h : x[i]? = some c) : x.drop i = c :: x.drop (i + 1) := by
  obtain ⟨h1, e1⟩ := List.getElem?_eq_some_iff.1 h
  rw [List.drop_eq_getElem_cons h1, e1]
theorem lead_keep {x y : List CP} {i j : Nat} {c : CP} (hx : x[i]? = some c) (hy : y[j]? = some c) : leadA (x.drop i) (y.drop j) = .k :: leadA (x.drop (i + 1)) (y.drop (j + 1)) := by
  rw [drop_at hx, drop_at hy, leadA, if_pos rfl]
theorem same_true {x y : List CP} {i j : Nat} (h : sameB x y i j = true) : ∃ c, x[i]? = some c ∧ y[j]? = some c := by
  unfold sameB at h
  cases hx : x[i]? with
  | none => rw [hx] at h; cases h
  | some c =>
    cases hy : y[j]? with
    | none => rw [hx, hy] at h; cases h
    | some d =>
      rw [hx, hy] at h
      have : c = d := by simpa using h
      subst this
      exact ⟨c, rfl, rfl⟩
theorem same_false {x y : List CP} {i j : Nat} (h : sameB x y i j = false) {c d : CP} (hx : x[i]? = some c) (hy : y[j]? = some d) : c ≠ d := by
  unfold sameB at h
  rw [hx, hy] at h
  simpa using h
theorem lead_drop {x y : List CP} {i j : Nat} (hs : sameB x y i j = false) (hd : dropB x y i j = true) (hi : i < x.length ∨ j < y.length) (hj : j ≤ y.length) : i < x.length ∧ leadA (x.drop i) (y.drop j) = .d :: leadA (x.drop (i + 1)) (y.drop j) := by
  have hi2 : i < x.length := by
    rcases hi with h | h
    · exact h
    · unfold dropB at hd
      simp at hd
      omega
  refine ⟨hi2, ?_⟩
  have hx := List.getElem?_eq_getElem hi2
  by_cases e : j = y.length
  · rw [e, List.drop_length, drop_at hx, leadA]
  · have hy := List.getElem?_eq_getElem (show j < y.length by omega)
    have hne := same_false hs hx hy
    unfold dropB at hd
    simp [e, hi2] at hd
    rw [drop_at hx, drop_at hy, leadA, if_neg hne, ← drop_at hx, if_pos (by rw [← drop_at hy]; exact hd)]
theorem lead_put {x y : List CP} {i j : Nat} (hs : sameB x y i j = false) (hd : dropB x y i j = false) (hi : i ≤ x.length) (hj : j ≤ y.length) : ∃ d, y[j]? = some d ∧ leadA (x.drop i) (y.drop j) = .p d :: leadA (x.drop i) (y.drop (j + 1)) := by
  have hj2 : j < y.length := by
    unfold dropB at hd
    simp at hd
    omega
  have hy := List.getElem?_eq_getElem hj2
  refine ⟨_, hy, ?_⟩
  by_cases e : i = x.length
  · rw [e, List.drop_length, drop_at hy, leadA]
  · have hx := List.getElem?_eq_getElem (show i < x.length by omega)
    have hne := same_false hs hx hy
    have hi2 : i < x.length := by omega
    have hjn : ¬ j = y.length := by omega
    unfold dropB at hd
    simp [hjn, hi2] at hd
    rw [drop_at hx, drop_at hy, leadA, if_neg hne, ← drop_at hx, if_neg (by rw [← drop_at hy]; omega)]
/-- what the walk has made so far -/
structure LW (w wr : World) (Ba Bb Bt gt : Nat) (va vb vm ov : Value) (x y : List CP) (M : List Nat) (i j : Nat) (L : List Pt) : Prop where
  tb : Tb wr Ba Bb Bt va vb vm x y M
  row : RowAt wr gt 63 [va, vb, vm]
  out : OwnP wr w.heap.size ov L
  eq : atomsL (L.filter fitsB) ++ leadA (x.drop i) (y.drop j) = leadA x y
  len : L.length ≤ i + j
  txt : sumT L ≤ 4 * j
  bel : Below w.heap.size w wr
theorem OwnP.app {w : World} {B : Nat} {v : Value} {l m : List Pt} (h : w.ownsRow B 39 3 v (l.length + m.length) (ptc l ++ ptc m)) : OwnP w B v (l ++ m) := by
  unfold OwnP
  rw [List.length_append, ptc_app]
  exact h
theorem LW.step {w wr w2 w3 : World} {Ba Bb Bt gt : Nat} {va vb vm ov v' : Value} {x y : List CP} {M : List Nat} {i j i' j' : Nat} {L : List Pt} {p : Pt} (h : LW w wr Ba Bb Bt gt va vb vm ov x y M i j L) (hal : Below wr.heap.size wr w2) (hg : w2.grownBy w3 ov.ownBlock) (ho : w3.ownsRow w.heap.size 39 3 v' (L.length + 1) (ptc L ++ ptc [p]))
    (he : atomsL ([p].filter fitsB) ++ leadA (x.drop i') (y.drop j') = leadA (x.drop i) (y.drop j)) (hl : i + j + 1 ≤ i' + j') (ht : 4 * j + p.text.size ≤ 4 * j') : LW w w3 Ba Bb Bt gt va vb vm v' x y M i' j' (L ++ [p]) := by
  have o3 := grown_only hg
  have hO : w2.ownsRow w.heap.size 39 3 ov L.length (ptc L) := own_call h.out hal
  have t := h.tb.call hal
  have hr := h.row.below hal h.row.lt
  have hB := h.bel.trans (hal.mono h.bel.size)
  refine ⟨⟨own_only t.a o3 (fun q hq hp => own_ne t.a hO (by decide) q hq hp), own_only t.b o3 (fun q hq hp => own_ne t.b hO (by decide) q hq hp), own_only t.m o3 (fun q hq hp => own_ne t.m hO (by decide) q hq hp), t.cx, t.cy, t.len, t.nx, t.ny⟩, hr.only o3 (fun hp => tag_ne hO hr (by decide) hp), OwnP.app (m := [p]) ho, ?_, ?_, ?_, hB.trans (o3.below hB.size (fun q hq => (hO.lt q hq).1))⟩
  · rw [List.filter_append, atomsL_append, List.append_assoc, he, h.eq]
  · rw [List.length_append]
    have := h.len
    simp
    omega
  · rw [sumT_app]
    have := h.txt
    omega
theorem LW.sees {w wr : World} {Ba Bb Bt gt : Nat} {va vb vm ov : Value} {x y : List CP} {M : List Nat} {i j : Nat} {L : List Pt} (h : LW w wr Ba Bb Bt gt va vb vm ov x y M i j L) : wr.cell? ⟨gt, 0, none⟩ = some va ∧ wr.cell? ⟨gt, 1, none⟩ = some vb ∧ wr.cell? ⟨gt, 2, none⟩ = some vm := ⟨h.row.cell 0, h.row.cell 1, h.row.cell 2⟩
def LeadR (x y : List CP) (w : World) (r : Ending) (w' : World) : Prop := ∃ v l, r = .returned v ∧ OwnP w' w.heap.size v l ∧ NfG 0 l ∧ atomsL l = At.can (leadA x y) ∧ Below w.heap.size w w'
theorem lead_len (n : Nat) : ∀ (x y : List CP), x.length + y.length ≤ n → (leadA x y).length ≤ x.length + y.length := by
  induction n with
  | zero => intro x y h; cases x <;> cases y <;> simp at h; rw [leadA]; simp
  | succ n ih =>
    intro x y h
    cases x with
    | nil =>
      cases y with
      | nil => rw [leadA]; simp
      | cons d y =>
        have := ih [] y (by simp at h ⊢; omega)
        rw [leadA]
        simp at this ⊢
        omega
    | cons c x =>
      cases y with
      | nil =>
        have := ih x [] (by simp at h ⊢; omega)
        rw [leadA]
        simp at this ⊢
        omega
      | cons d y =>
        have i1 := ih x y (by simp at h ⊢; omega)
        have i2 := ih x (d :: y) (by simp at h ⊢; omega)
        have i3 := ih (c :: x) y (by simp at h ⊢; omega)
        simp at i2 i3
        rw [leadA]
        split
        · simp; omega
        · split <;> simp <;> omega
set_option maxRecDepth 100000 in
set_option maxHeartbeats 4000000 in
theorem lead_any {w : World} {Ba Bb : Nat} {va vb : Value} {x y : List CP} (hT : UT w) (ha : w.ownsRow Ba 21 1 va x.length (rnv x)) (hb : w.ownsRow Bb 21 1 vb y.length (rnv y)) (hcx : Cps x) (hcy : Cps y) (hnx : x.length ≤ 1024) (hny : y.length ≤ 1024) :
    Calls Tryd.prog 30 #[va, vb] w fun r w' => LeadR x y w r w' := by
  have KT := hide (table_any ha hb hcx hcy hnx hny)
  have HU : Hid (∀ W, Below w.heap.size w W → UT W) := hide (fun W h => hT.call h)
  obtain ⟨aa, ca, rfl, hca, hca2⟩ := own_sl ha
  obtain ⟨ab, cb, rfl, hcb, hcb2⟩ := own_sl hb
  obtain ⟨n, hn⟩ : ∃ z, x.length = z := ⟨_, rfl⟩
  obtain ⟨m, hm⟩ : ∃ z, y.length = z := ⟨_, rfl⟩
  have HN := hide hn
  have HM := hide hm
  rw [hn, hm] at KT
  rw [hn] at hca hnx ⊢
  rw [hm] at hcb hny ⊢
  clear ha hb hT hn hm
  go_enter Tryd.func30, Tryd.ntmps30
  go_wp2_with fail
  refine Calls.mono (unhide KT) ?_
  rintro r w1 h1
  obtain ⟨Ba, Bb, vm, M, rfl, ht, hF, b1⟩ := h1
  have HF := hide hF
  obtain ⟨_, _, _, _, gm, cm, -, -, hvm, -⟩ := ht.parts
  obtain ⟨P, hP⟩ : ∃ z, M.length = z := ⟨_, rfl⟩
  rw [hP] at hvm
  subst hvm
  clear hP
  have hal : Below w1.heap.size w1 (w1.alloc (.cells #[.slice aa n ca, .slice ab m cb, .slice (some ⟨gm, 0, none⟩) P cm] 63)) := (Below.refl _ _).alloc (Nat.le_refl _) _
  have HL0 : Hid (LW w (w1.alloc (.cells #[.slice aa n ca, .slice ab m cb, .slice (some ⟨gm, 0, none⟩) P cm] 63)) Ba Bb w.heap.size w1.heap.size (.slice aa n ca) (.slice ab m cb) (.slice (some ⟨gm, 0, none⟩) P cm) (.slice none 0 0) x y M 0 0 []) := hide ⟨ht.call hal, RowAt.new w1 63 _, OwnP.nil _ _, by simp [atomsL], by simp, by simp [sumT], b1.trans (hal.mono b1.size)⟩
  clear hal ht hF b1 KT
  go_wp2_with fail
  obtain ⟨gt, hgt⟩ : ∃ z, w1.heap.size = z := ⟨_, rfl⟩
  rw [hgt] at HL0 ⊢
  clear hgt
  go_loopw [6, 7, 8] (fun ov iv jv wr => ∃ (i j : Nat) (a2 : Option Addr) (c2 : Nat) (L : List Pt), i ≤ n ∧ j ≤ m ∧ iv = .int .i64 (i : Int) ∧ jv = .int .i64 (j : Int) ∧ ov = .slice a2 L.length c2 ∧ Hid (LW w wr Ba Bb w.heap.size gt (.slice aa n ca) (.slice ab m cb) (.slice (some ⟨gm, 0, none⟩) P cm) (.slice a2 L.length c2) x y M i j L)) (fun _ iv jv _ => ((n : Int) - intOf iv + ((m : Int) - intOf jv)).toNat)
  case atStart => exact ⟨0, 0, none, 0, [], by omega, by omega, by simp, by simp, rfl, HL0⟩
  case round =>
    clear HL0
    obtain ⟨i, j, a2, c2, L, hi, hj, rfl, rfl, rfl, HL⟩ := hrel
    have hll := (unhide HL).len
    obtain ⟨q0, q1, q2⟩ := (unhide HL).sees
    obtain ⟨q, hq⟩ : ∃ z, L.length = z := ⟨_, rfl⟩
    have HLQ := hide hq
    rw [hq] at HL hll ⊢
    clear hq
    have i0 : (0 : Int) ≤ (i : Int) := by omega
    have j0 : (0 : Int) ≤ (j : Int) := by omega
    by_cases hend : i < n ∨ j < m
    · have KS := hide (same_any (unhide HL).tb (i := i) (j := j) (by rw [unhide HN]; exact hi) (by rw [unhide HM]; exact hj))
      have KD := hide (fun W (hb : Below wr.heap.size wr W) => drops_any ((unhide HL).tb.call hb) (i := i) (j := j) (by rw [unhide HN]; exact hi) (by rw [unhide HM]; exact hj) (unhide HF))
      have hI1 : i < n → (i : Int) < (n : Int) := fun h => by omega
      obtain ⟨go, hgo, hgo2⟩ : ∃ g : Bool, ((decide ((i : Int) < (n : Int)) = true) ∨ (decide ((i : Int) < (n : Int)) = false ∧ decide ((j : Int) < (m : Int)) = true)) ∧ g = true := by
        refine ⟨true, ?_, rfl⟩
        by_cases h : i < n
        · exact .inl (by simp; omega)
        · exact .inr ⟨by simp; omega, by simp; omega⟩
      cases hsm : sameB x y i j with
      | true =>
        rw [hsm] at KS
        obtain ⟨c, hx, hy⟩ := same_true hsm
        have HK := hide (lead_keep hx hy)
        have hi3 := (List.getElem?_eq_some_iff.1 hx).1
        have hj3 := (List.getElem?_eq_some_iff.1 hy).1
        rw [unhide HN] at hi3
        rw [unhide HM] at hj3
        have hiI : (i : Int) < (n : Int) := by omega
        clear hsm hx hy hgo hgo2 hI1 hend KD
        go_wp2_with fail
        refine Calls.mono (unhide KS) ?_
        rintro r ws ⟨rfl, bs⟩
        have HBw := hide bs
        clear bs KS q0 q1 q2
        have hal : Below ws.heap.size ws (ws.alloc (.cells #[.int .i64 1, .int .i64 1, .string ⟨#[]⟩] 39)) := (Below.refl _ _).alloc (Nat.le_refl _) _
        have HAL := hide ((unhide HBw).trans (hal.mono (unhide HBw).size))
        have HS2 : Hid ((ws.alloc (.cells #[.int .i64 1, .int .i64 1, .string ⟨#[]⟩] 39)).ownsRow w.heap.size 39 3 (.slice a2 q c2) q (ptc L)) := hide (by have h9 := own_call (unhide HL).out (unhide HAL); rw [unhide HLQ] at h9; exact h9)
        have HB2 := hide ((unhide HL).bel.trans ((unhide HAL).mono (unhide HL).bel.size))
        have HC2 := hide (RowAt.new ws 39 [.int .i64 1, .int .i64 1, .string ⟨#[]⟩])
        clear hal
        go_wp2_with (at_builtin; refine unhide ?_)
        obtain ⟨i9, hi9, hz9, hs9, hb9⟩ := info_parts infoPt
        refine hide ?_
        refine wpList_append_own_at _ rfl _ _ 24 rfl w.heap.size 39 i9 (.agg #[.int .i64 0, .int .i64 0, .string ⟨#[]⟩]) 3 32 Tryd.underlying24 hi9 hz9 hs9 hb9 rfl (by decide) (.slice a2 q c2) q (ptc L) rfl (unhide HS2) ⟨ws.heap.size, 0, none⟩ 1 1 [.int .i64 1, .int .i64 1, .string ⟨#[]⟩] rfl rfl (fun j u hj => by
          have h9 := (unhide HC2).cell j
          rw [hj] at h9
          rw [Addr.add_lit, Nat.zero_add]
          exact h9) (fun u hu => by
          simp only [List.mem_cons, List.not_mem_nil, or_false] at hu
          rcases hu with rfl | rfl | rfl <;> rfl) (by unfold maxLen; omega) (by omega) (unhide HB2).size ?_
        intro v' w3 ho hg _ _
        obtain ⟨a4, c4, rfl, _, _⟩ := own_sl3 ho
        have HL2 := hide ((unhide HL).step (i' := i + 1) (j' := j + 1) (p := ⟨1, 1, ⟨#[]⟩⟩) (unhide HAL) hg (by rw [unhide HLQ]; exact ho) (by rw [one_k 1 (by omega), unhide HK]; rfl) (by omega) (by show 4 * j + 0 ≤ 4 * (j + 1); omega))
        clear ho hg HL HS2 HB2 HC2 HAL HBw i9 hi9 hz9 hs9 hb9
        go_wp2_with fail
        have hl9 : (L ++ [(⟨1, 1, ⟨#[]⟩⟩ : Pt)]).length = q + 1 := by rw [List.length_append, unhide HLQ]; rfl
        exact ⟨⟨i + 1, j + 1, a4, c4, _, by omega, by omega, by simp, by simp, by rw [hl9], by rw [hl9]; exact HL2⟩, by simp [intOf]; omega⟩
      | false =>
        rw [hsm] at KS
        cases hdr : dropB x y i j with
        | true =>
          rw [hdr] at KD
          obtain ⟨hi3, hk⟩ := lead_drop hsm hdr (by rw [unhide HN, unhide HM]; exact hend) (by rw [unhide HM]; exact hj)
          have HK := hide hk
          rw [unhide HN] at hi3
          have hiI : (i : Int) < (n : Int) := by omega
          clear hsm hdr hgo hgo2 hI1 hend hk
          go_wp2_with fail
          refine Calls.mono (unhide KS) ?_
          rintro r w5 ⟨rfl, b5⟩
          have h0 := kept b5 q0
          have h1 := kept b5 q1
          have h2 := kept b5 q2
          have HB5 := hide b5
          clear b5 KS q0 q1 q2
          go_wp2_with fail
          refine Calls.mono (unhide KD _ (unhide HB5)) ?_
          rintro r ws ⟨rfl, bs⟩
          have HBw := hide ((unhide HB5).trans (bs.mono (unhide HB5).size))
          clear bs KD h0 h1 h2 HB5
          have hal : Below ws.heap.size ws (ws.alloc (.cells #[.int .i64 3, .int .i64 1, .string ⟨#[]⟩] 39)) := (Below.refl _ _).alloc (Nat.le_refl _) _
          have HAL := hide ((unhide HBw).trans (hal.mono (unhide HBw).size))
          have HS2 : Hid ((ws.alloc (.cells #[.int .i64 3, .int .i64 1, .string ⟨#[]⟩] 39)).ownsRow w.heap.size 39 3 (.slice a2 q c2) q (ptc L)) := hide (by have h9 := own_call (unhide HL).out (unhide HAL); rw [unhide HLQ] at h9; exact h9)
          have HB2 := hide ((unhide HL).bel.trans ((unhide HAL).mono (unhide HL).bel.size))
          have HC2 := hide (RowAt.new ws 39 [.int .i64 3, .int .i64 1, .string ⟨#[]⟩])
          clear hal
          go_wp2_with (at_builtin; refine unhide ?_)
          obtain ⟨i9, hi9, hz9, hs9, hb9⟩ := info_parts infoPt
          refine hide ?_
          refine wpList_append_own_at _ rfl _ _ 24 rfl w.heap.size 39 i9 (.agg #[.int .i64 0, .int .i64 0, .string ⟨#[]⟩]) 3 32 Tryd.underlying24 hi9 hz9 hs9 hb9 rfl (by decide) (.slice a2 q c2) q (ptc L) rfl (unhide HS2) ⟨ws.heap.size, 0, none⟩ 1 1 [.int .i64 3, .int .i64 1, .string ⟨#[]⟩] rfl rfl (fun j u hj => by
            have h9 := (unhide HC2).cell j
            rw [hj] at h9
            rw [Addr.add_lit, Nat.zero_add]
            exact h9) (fun u hu => by
            simp only [List.mem_cons, List.not_mem_nil, or_false] at hu
            rcases hu with rfl | rfl | rfl <;> rfl) (by unfold maxLen; omega) (by omega) (unhide HB2).size ?_
          intro v' w3 ho hg _ _
          obtain ⟨a4, c4, rfl, _, _⟩ := own_sl3 ho
          have HL2 := hide ((unhide HL).step (i' := i + 1) (j' := j) (p := ⟨3, 1, ⟨#[]⟩⟩) (unhide HAL) hg (by rw [unhide HLQ]; exact ho) (by rw [one_d 1 (by omega), unhide HK]; rfl) (by omega) (by show 4 * j + 0 ≤ 4 * j; omega))
          clear ho hg HL HS2 HB2 HC2 HAL HBw i9 hi9 hz9 hs9 hb9
          go_wp2_with fail
          have hl9 : (L ++ [(⟨3, 1, ⟨#[]⟩⟩ : Pt)]).length = q + 1 := by rw [List.length_append, unhide HLQ]; rfl
          exact ⟨⟨i + 1, j, a4, c4, _, by omega, by omega, by simp, by simp, by rw [hl9], by rw [hl9]; exact HL2⟩, by simp [intOf]; omega⟩
        | false =>
          rw [hdr] at KD
          obtain ⟨d, hd, hk⟩ := lead_put hsm hdr (by rw [unhide HN]; exact hi) (by rw [unhide HM]; exact hj)
          have HK := hide hk
          have hj3 := (List.getElem?_eq_some_iff.1 hd).1
          rw [unhide HM] at hj3
          have hcd := (unhide HL).tb.cy _ (List.mem_of_getElem? hd)
          obtain ⟨gb, cb2, e, hcb3, _⟩ := own_rd (unhide HL).tb.b (rnv_at hd)
          injection e with e1 e2 e3
          clear e2
          subst e1 e3
          have henc := enc_cp hcd
          have HCP := hide hcd
          obtain ⟨z, hz⟩ : ∃ z : Int, (rn d : Int) = z := ⟨_, rfl⟩
          have henc2 : Utf8.encode z = ⟨d.toArray⟩ := by rw [← hz]; exact henc
          rw [hz] at hcb3
          obtain ⟨S, hS⟩ : ∃ S : ByteArray, (⟨d.toArray⟩ : ByteArray) = S := ⟨_, rfl⟩
          rw [hS] at henc2
          have hcv : ∀ W, (convert 21 9 (.int .i32 z)).run Tryd.prog W = .ok (.string S) W := fun W => by rw [← henc2]; rfl
          have hSt : Tx S [d] := by rw [← hS]; exact ⟨fun c hc => by rw [List.mem_singleton] at hc; rw [hc]; exact hcd, by simp⟩
          have HST := hide hSt
          have hSs : S.size ≤ 4 := by rw [← hS]; show d.toArray.size ≤ 4; rw [List.size_toArray]; exact hcd.four
          have hjI : (j : Int) < (m : Int) := by omega
          have hg1 : i < n ∨ ¬ i < n := by omega
          clear hsm hdr hgo hgo2 hI1 hend hk hd henc henc2 hz hS hSt hcd
          rcases hg1 with hg1 | hg1
          · have hiI : (i : Int) < (n : Int) := by omega
            go_wp2_with fail
            refine Calls.mono (unhide KS) ?_
            rintro r w5 ⟨rfl, b5⟩
            have h0 := kept b5 q0
            have h1 := kept b5 q1
            have h2 := kept b5 q2
            have h3 := kept b5 hcb3
            have HB5 := hide b5
            clear b5 KS q0 q1 q2 hcb3
            go_wp2_with fail
            refine Calls.mono (unhide KD _ (unhide HB5)) ?_
            rintro r ws ⟨rfl, bs⟩
            have hcb3 := kept bs h3
            have HBw := hide ((unhide HB5).trans (bs.mono (unhide HB5).size))
            clear bs KD h0 h1 h2 h3 HB5
            have hal : Below ws.heap.size ws (ws.alloc (.cells #[.int .i64 2, .int .i64 1, .string S] 39)) := (Below.refl _ _).alloc (Nat.le_refl _) _
            have HAL := hide ((unhide HBw).trans (hal.mono (unhide HBw).size))
            have HS2 : Hid ((ws.alloc (.cells #[.int .i64 2, .int .i64 1, .string S] 39)).ownsRow w.heap.size 39 3 (.slice a2 q c2) q (ptc L)) := hide (by have h9 := own_call (unhide HL).out (unhide HAL); rw [unhide HLQ] at h9; exact h9)
            have HB2 := hide ((unhide HL).bel.trans ((unhide HAL).mono (unhide HL).bel.size))
            have HC2 := hide (RowAt.new ws 39 [.int .i64 2, .int .i64 1, .string S])
            clear hal
            go_wp2_with (at_builtin; refine unhide ?_)
            obtain ⟨i9, hi9, hz9, hs9, hb9⟩ := info_parts infoPt
            refine hide ?_
            refine wpList_append_own_at _ rfl _ _ 24 rfl w.heap.size 39 i9 (.agg #[.int .i64 0, .int .i64 0, .string ⟨#[]⟩]) 3 32 Tryd.underlying24 hi9 hz9 hs9 hb9 rfl (by decide) (.slice a2 q c2) q (ptc L) rfl (unhide HS2) ⟨ws.heap.size, 0, none⟩ 1 1 [.int .i64 2, .int .i64 1, .string S] rfl rfl (fun j u hj => by
              have h9 := (unhide HC2).cell j
              rw [hj] at h9
              rw [Addr.add_lit, Nat.zero_add]
              exact h9) (fun u hu => by
              simp only [List.mem_cons, List.not_mem_nil, or_false] at hu
              rcases hu with rfl | rfl | rfl <;> rfl) (by unfold maxLen; omega) (by omega) (unhide HB2).size ?_
            intro v' w3 ho hg _ _
            obtain ⟨a4, c4, rfl, _, _⟩ := own_sl3 ho
            have HL2 := hide ((unhide HL).step (i' := i) (j' := j + 1) (p := ⟨2, 1, S⟩) (unhide HAL) hg (by rw [unhide HLQ]; exact ho) (by rw [show ([⟨2, 1, S⟩] : List Pt) = [⟨2, ((1 : Nat) : Int), S⟩] from rfl, one_p (n := 1) (unhide HST) (by rfl) (by omega), unhide HK]; rfl) (by omega) (by show 4 * j + S.size ≤ 4 * (j + 1); omega))
            clear ho hg HL HS2 HB2 HC2 HAL HBw i9 hi9 hz9 hs9 hb9
            go_wp2_with fail
            have hl9 : (L ++ [(⟨2, 1, S⟩ : Pt)]).length = q + 1 := by rw [List.length_append, unhide HLQ]; rfl
            exact ⟨⟨i, j + 1, a4, c4, _, by omega, by omega, by simp, by simp, by rw [hl9], by rw [hl9]; exact HL2⟩, by simp [intOf]; omega⟩
          · have hiI : ¬ (i : Int) < (n : Int) := by omega
            go_wp2_with fail
            refine Calls.mono (unhide KS) ?_
            rintro r w5 ⟨rfl, b5⟩
            have h0 := kept b5 q0
            have h1 := kept b5 q1
            have h2 := kept b5 q2
            have h3 := kept b5 hcb3
            have HB5 := hide b5
            clear b5 KS q0 q1 q2 hcb3
            go_wp2_with fail
            refine Calls.mono (unhide KD _ (unhide HB5)) ?_
            rintro r ws ⟨rfl, bs⟩
            have hcb3 := kept bs h3
            have HBw := hide ((unhide HB5).trans (bs.mono (unhide HB5).size))
            clear bs KD h0 h1 h2 h3 HB5
            have hal : Below ws.heap.size ws (ws.alloc (.cells #[.int .i64 2, .int .i64 1, .string S] 39)) := (Below.refl _ _).alloc (Nat.le_refl _) _
            have HAL := hide ((unhide HBw).trans (hal.mono (unhide HBw).size))
            have HS2 : Hid ((ws.alloc (.cells #[.int .i64 2, .int .i64 1, .string S] 39)).ownsRow w.heap.size 39 3 (.slice a2 q c2) q (ptc L)) := hide (by have h9 := own_call (unhide HL).out (unhide HAL); rw [unhide HLQ] at h9; exact h9)
            have HB2 := hide ((unhide HL).bel.trans ((unhide HAL).mono (unhide HL).bel.size))
            have HC2 := hide (RowAt.new ws 39 [.int .i64 2, .int .i64 1, .string S])
            clear hal
            go_wp2_with (at_builtin; refine unhide ?_)
            obtain ⟨i9, hi9, hz9, hs9, hb9⟩ := info_parts infoPt
            refine hide ?_
            refine wpList_append_own_at _ rfl _ _ 24 rfl w.heap.size 39 i9 (.agg #[.int .i64 0, .int .i64 0, .string ⟨#[]⟩]) 3 32 Tryd.underlying24 hi9 hz9 hs9 hb9 rfl (by decide) (.slice a2 q c2) q (ptc L) rfl (unhide HS2) ⟨ws.heap.size, 0, none⟩ 1 1 [.int .i64 2, .int .i64 1, .string S] rfl rfl (fun j u hj => by
              have h9 := (unhide HC2).cell j
              rw [hj] at h9
              rw [Addr.add_lit, Nat.zero_add]
              exact h9) (fun u hu => by
              simp only [List.mem_cons, List.not_mem_nil, or_false] at hu
              rcases hu with rfl | rfl | rfl <;> rfl) (by unfold maxLen; omega) (by omega) (unhide HB2).size ?_
            intro v' w3 ho hg _ _
            obtain ⟨a4, c4, rfl, _, _⟩ := own_sl3 ho
            have HL2 := hide ((unhide HL).step (i' := i) (j' := j + 1) (p := ⟨2, 1, S⟩) (unhide HAL) hg (by rw [unhide HLQ]; exact ho) (by rw [show ([⟨2, 1, S⟩] : List Pt) = [⟨2, ((1 : Nat) : Int), S⟩] from rfl, one_p (n := 1) (unhide HST) (by rfl) (by omega), unhide HK]; rfl) (by omega) (by show 4 * j + S.size ≤ 4 * (j + 1); omega))
            clear ho hg HL HS2 HB2 HC2 HAL HBw i9 hi9 hz9 hs9 hb9
            go_wp2_with fail
            have hl9 : (L ++ [(⟨2, 1, S⟩ : Pt)]).length = q + 1 := by rw [List.length_append, unhide HLQ]; rfl
            exact ⟨⟨i, j + 1, a4, c4, _, by omega, by omega, by simp, by simp, by rw [hl9], by rw [hl9]; exact HL2⟩, by simp [intOf]; omega⟩
    · obtain rfl : i = n := by omega
      obtain rfl : j = m := by omega
      have hend2 := (unhide HL).eq
      rw [← unhide HN, List.drop_length, ← unhide HM, List.drop_length] at hend2
      rw [show leadA [] [] = [] by rw [leadA], List.append_nil] at hend2
      obtain ⟨a5, c5, e5, hp5, _, _⟩ := (unhide HL).out.slice
      rw [unhide HLQ] at e5
      injection e5 with e5 _ e6
      subst e5 e6
      have hst := (unhide HL).txt
      have hB := (unhide HL).bel
      have KN := hide (norm_any a2 L c2 wr (unhide HU _ hB) hp5 (by rw [unhide HLQ]; omega) (by omega))
      have HG := hide (norm_good L (by rw [hend2]; have := lead_len _ x y (Nat.le_refl _); rw [unhide HN, unhide HM] at this; omega))
      rw [hend2] at HG
      rw [unhide HLQ] at KN
      have HB := hide hB
      have hiI : ¬ (i : Int) < (i : Int) := by omega
      have hjI : ¬ (j : Int) < (j : Int) := by omega
      clear hend2 hp5 hst hB HL q0 q1 q2 hend
      go_wp2_with fail
      refine Calls.mono (unhide KN) ?_
      rintro r w9 ⟨v9, rfl, ho9, b9⟩
      have HO9 := hide (own_base ho9 (unhide HB).size)
      have B9 := hide ((unhide HB).trans (b9.mono (unhide HB).size))
      clear ho9 b9 KN
      go_wp2_with fail
      go_ret
      exact ⟨_, _, rfl, unhide HO9, (unhide HG).1, (unhide HG).2, unhide B9⟩
end Go.Proofs.YtonabfpgdgnpnaaDoor
