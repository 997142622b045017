/- Apply. -/
import Derived.Test.YtonabfpgdgnpnaaDoorCmp
import Derived.Test.YtonabfpgdgnpnaaDoorBla
namespace Go.Proofs.YtonabfpgdgnpnaaDoor
set_option linter.unusedVariables false
set_option linter.unusedSimpArgs false
open Go.ChangeShapes Go.WideShapes Go.ChangeAt Go.RowKit Go.Joins Go.Deep

theorem app_map (cs : List (List UInt8)) (x : List At) (s : List (List UInt8)) : At.app (cs.map .p ++ x) s = cs ++ At.app x s := by
  induction cs with
  | nil => rfl
  | cons c cs ih => simp only [List.map_cons, List.cons_append, At.app]; rw [ih]
theorem app_rep_k (n : Nat) (x : List At) : ∀ s : List (List UInt8), n ≤ s.length → At.app (List.replicate n .k ++ x) s = s.take n ++ At.app x (s.drop n) := by
  induction n with
  | zero => intro s _; simp
  | succ n ih =>
    intro s h
    cases s with
    | nil => simp at h
    | cons c s => simp only [List.replicate_succ, List.cons_append, At.app, List.take_succ_cons, List.drop_succ_cons]; rw [ih s (by simpa using h)]
theorem app_rep_d (n : Nat) (x : List At) : ∀ s : List (List UInt8), n ≤ s.length → At.app (List.replicate n .d ++ x) s = At.app x (s.drop n) := by
  induction n with
  | zero => intro s _; simp
  | succ n ih =>
    intro s h
    cases s with
    | nil => simp at h
    | cons c s => simp only [List.replicate_succ, List.cons_append, At.app, List.drop_succ_cons]; rw [ih s (by simpa using h)]
/-- where an application stands -/
structure AI (A : List At) (c0 : List (List UInt8)) (l : List Pt) (s : ByteArray) (X : List (List UInt8)) : Prop where
  tx : ∃ cs, Tx s cs ∧ At.app A c0 = X ++ At.app (atomsL l) cs ∧ cs.length = At.fromN (atomsL l)
  cps : Cps X
theorem AI.put {A : List At} {c0 : List (List UInt8)} {p : Pt} {l : List Pt} {s : ByteArray} {X : List (List UInt8)} (h : AI A c0 (p :: l) s X) (hg : Fit1 p) (hk : p.kind = 2) : ∃ ds, Tx p.text ds ∧ AI A c0 l s (X ++ ds) := by
  obtain ⟨cs, h1, h2, h3⟩ := h.tx
  rcases hg.1.cases with ⟨k, _⟩ | ⟨k, _⟩ | ⟨_, ds, x3, x4, e⟩
  · omega
  · omega
  · refine ⟨ds, x3, ⟨cs, h1, ?_, ?_⟩, h.cps.append x3.cps⟩
    · rw [h2, atomsL, e, app_map, List.append_assoc]
    · rw [atomsL, At.from_app, e, from_map] at h3; omega
theorem AI.keep {A : List At} {c0 : List (List UInt8)} {p : Pt} {l : List Pt} {s : ByteArray} {X : List (List UInt8)} (h : AI A c0 (p :: l) s X) (hg : Fit1 p) (hk : p.kind = 1) : ∃ cs, Tx s cs ∧ AI A c0 l (s.extract (placeOf cs (cutK p.n cs)) s.size) (X ++ cs.take (cutK p.n cs)) := by
  obtain ⟨cs, h1, h2, h3⟩ := h.tx
  have hn := hg.1.1
  rcases hg.1.cases with ⟨_, _, e⟩ | ⟨k, _⟩ | ⟨k, _⟩
  · rw [atomsL, At.from_app, e, from_rep_k] at h3
    have hc : cutK p.n cs = p.n.toNat := by unfold cutK; omega
    refine ⟨cs, h1, ?_⟩
    rw [hc]
    refine ⟨⟨cs.drop p.n.toNat, h1.back _, ?_, by rw [List.length_drop]; omega⟩, h.cps.append (h1.cps.take _)⟩
    rw [h2, atomsL, e, app_rep_k _ _ _ (by omega), List.append_assoc]
  · omega
  · omega
theorem AI.drop {A : List At} {c0 : List (List UInt8)} {p : Pt} {l : List Pt} {s : ByteArray} {X : List (List UInt8)} (h : AI A c0 (p :: l) s X) (hg : Fit1 p) (hk : p.kind = 3) : ∃ cs, Tx s cs ∧ AI A c0 l (s.extract (placeOf cs (cutK p.n cs)) s.size) X := by
  obtain ⟨cs, h1, h2, h3⟩ := h.tx
  have hn := hg.1.1
  rcases hg.1.cases with ⟨k, _⟩ | ⟨_, _, e⟩ | ⟨k, _⟩
  · omega
  · rw [atomsL, At.from_app, e, from_rep_d] at h3
    have hc : cutK p.n cs = p.n.toNat := by unfold cutK; omega
    refine ⟨cs, h1, ?_⟩
    rw [hc]
    refine ⟨⟨cs.drop p.n.toNat, h1.back _, ?_, by rw [List.length_drop]; omega⟩, h.cps⟩
    rw [h2, atomsL, e, app_rep_d _ _ _ (by omega)]
  · omega
theorem AI.most {A : List At} {c0 : List (List UInt8)} {l : List Pt} {s : ByteArray} {X : List (List UInt8)} (h : AI A c0 l s X) (hA : (At.app A c0).length ≤ 1099511627776) : X.flatten.length ≤ 4398046511104 := by
  obtain ⟨cs, h1, h2, h3⟩ := h.tx
  have := h.cps.most
  rw [h2, List.length_append] at hA
  omega
theorem AI.size {A : List At} {c0 : List (List UInt8)} {l : List Pt} {s : ByteArray} {X : List (List UInt8)} (h : AI A c0 l s X) (hf : At.fromN (atomsL l) ≤ 1099511627776) : s.size ≤ 4398046511104 := by
  obtain ⟨cs, h1, h2, h3⟩ := h.tx
  have := h1.cps.most
  rw [← h1.size] at this
  omega
theorem AI.ends {A : List At} {c0 : List (List UInt8)} {s : ByteArray} {X : List (List UInt8)} (h : AI A c0 [] s X) : X = At.app A c0 := by
  obtain ⟨cs, h1, h2, h3⟩ := h.tx
  simp [atomsL, At.fromN] at h3
  rw [h2, h3]
  simp [atomsL, At.app]
theorem from_drop (l : List Pt) (k : Nat) : At.fromN (atomsL (l.drop k)) ≤ At.fromN (atomsL l) := by
  have h : atomsL l = atomsL (l.take k) ++ atomsL (l.drop k) := by rw [← atomsL_append, List.take_append_drop]
  rw [h, At.from_app]
  omega
theorem isOf_ed {l : List Pt} {s : ByteArray} (h : isOfB l s = true) : ∃ cs t, Tx s cs ∧ IsEd l cs.length t := by
  unfold isOfB at h
  simp only [Bool.and_eq_true, decide_eq_true_eq] at h
  obtain ⟨cs, hcs⟩ := tx_of_valid h.1
  obtain ⟨t, ht, _⟩ := check_ed h.2
  rw [hcs.count] at ht
  exact ⟨cs, t, hcs, by simpa using ht⟩
/-- what Apply answers -/
def AplR (l : List Pt) (s : ByteArray) (r : Ending) : Prop := isOfB l s = false ∧ r = .returned (.tuple #[.string ByteArray.empty, .int .i64 30]) ∨ isOfB l s = true ∧ ∃ S cs, Tx s cs ∧ Tx S (At.app (atomsL l) cs) ∧ r = .returned (.tuple #[.string S, .int .i64 0])
set_option maxRecDepth 100000 in
set_option maxHeartbeats 4000000 in
theorem apply_any (a : Option Addr) (l : List Pt) (c : Nat) (s : ByteArray) (w : World) (hT : UT w) (hp : PtsAt w a l) (hc : l.length ≤ maxLen) (hs : ∀ p ∈ l, p.text.size ≤ 281474976710656) (hs2 : s.size ≤ 281474976710656) :
    Calls Tryd.prog 20 #[.slice a l.length c, .string s] w fun r w' => AplR l s r ∧ Below w.heap.size w w' := by
  have HIS := hide (isOf_any a l c s w hT hp hc hs hs2)
  have HT := hide hT
  have HP := hide hp
  cases hio : isOfB l s with
  | false =>
    rw [hio] at HIS
    have HO := hide hio
    obtain ⟨n, hn⟩ : ∃ n, l.length = n := ⟨_, rfl⟩
    rw [hn] at HIS ⊢
    clear hT hp hc hs hs2 hio hn
    go_enter Tryd.func20, Tryd.ntmps20
    go_wp2_with fail
    refine Calls.mono (unhide HIS) ?_
    rintro r w1 ⟨rfl, hb1⟩
    have HB1 := hide hb1
    clear hb1 HIS
    go_wp2_with fail
    go_ret2
    exact ⟨.inl ⟨unhide HO, rfl⟩, unhide HB1⟩
  | true =>
    rw [hio] at HIS
    have HO := hide hio
    obtain ⟨c0, t0, htx, hed⟩ := isOf_ed hio
    have HTX := hide htx
    have HED := hide hed
    have HGD := hide (ed_fit hed)
    have HAL : Hid ((At.app (atomsL l) c0).length ≤ 1099511627776) := hide (by rw [At.app_len _ _ hed.2.1.symm, hed.2.2.1]; exact hed.2.2.2.2)
    have HI0 : Hid (AI (atomsL l) c0 (l.drop 0) s []) := hide ⟨⟨c0, htx, by simp, by simpa using hed.2.1.symm⟩, Cps.nil⟩
    obtain ⟨n, hn⟩ : ∃ n, l.length = n := ⟨_, rfl⟩
    rw [hn] at HIS hc ⊢
    have HN := hide hn
    have nI : (n : Int) ≤ 9223372036854775807 := by unfold maxLen at hc; omega
    clear hT hp hs hs2 hio hn htx hed
    go_enter Tryd.func20, Tryd.ntmps20
    go_wp2_with fail
    refine Calls.mono (unhide HIS) ?_
    rintro r w1 ⟨rfl, hb1⟩
    have HB1 := hide hb1
    clear hb1 HIS
    have HBD := hide (Bl.Bd.new w1)
    go_wp2_with fail
    obtain ⟨g, hg⟩ : ∃ z, w1.heap.size = z := ⟨_, rfl⟩
    have HG1 := hide hg
    go_loopw [1, 17] (fun sv i wr => ∃ (k : Nat) (sk : ByteArray) (X : List (List UInt8)), k ≤ n ∧ i = .int .i64 (k : Int) ∧ sv = .string sk ∧ Hid (Bl.Bd w1 wr w1.heap.size w1.heap.size X.flatten) ∧ Hid (AI (atomsL l) c0 (l.drop k) sk X)) (fun _ i _ => ((n : Int) - intOf i).toNat)
    case atStart => exact ⟨0, s, [], by omega, by simp, rfl, HBD, HI0⟩
    case round =>
      clear hg
      obtain ⟨k, sk, X, hk, rfl, rfl, HB, HI⟩ := hrel
      by_cases hlt : k < n
      · have kI : (k : Int) < (n : Int) := by omega
        obtain ⟨p, hpk⟩ : ∃ p, l[k]? = some p := ⟨_, List.getElem?_eq_getElem (by have := unhide HN; omega)⟩
        have HBW : Hid (Below w.heap.size w wr) := hide ((unhide HB1).trans ((unhide HB).bel.mono (unhide HB1).size))
        obtain ⟨b, off, rfl, e0, e1, e2⟩ := (unhide HP).at_ (unhide HBW) hpk
        have hdr : l.drop k = p :: l.drop (k + 1) := by
          rw [List.drop_eq_getElem_cons (by have := unhide HN; omega)]
          congr 1
          exact (List.getElem?_eq_some_iff.1 hpk).2
        rw [hdr] at HI
        have HG := hide (unhide HGD p (List.mem_of_getElem? hpk))
        have HSK : Hid (sk.size ≤ 4398046511104) := hide ((unhide HI).size (by rw [← hdr]; have h1 := from_drop l k; have h2 := unhide HED; have := h2.2.1; have := h2.2.2.2.1; omega))
        have hbA : Below wr.heap.size wr (wr.alloc (.cells #[.int .i64 p.kind, .int .i64 p.n, .string p.text] 39)) := (Below.refl _ _).alloc (Nat.le_refl _) _
        have HB2 := hide ((unhide HB).call hbA)
        have HBW2 := hide ((unhide HBW).trans (hbA.mono (unhide HBW).size))
        have hrw := RowAt.new wr 39 [.int .i64 p.kind, .int .i64 p.n, .string p.text]
        have r0 : (wr.alloc (.cells #[.int .i64 p.kind, .int .i64 p.n, .string p.text] 39)).cell? ⟨wr.heap.size, 0, none⟩ = some (.int .i64 p.kind) := hrw.cell 0
        have r1 : (wr.alloc (.cells #[.int .i64 p.kind, .int .i64 p.n, .string p.text] 39)).cell? ⟨wr.heap.size, 1, none⟩ = some (.int .i64 p.n) := hrw.cell 1
        have r2 : (wr.alloc (.cells #[.int .i64 p.kind, .int .i64 p.n, .string p.text] 39)).cell? ⟨wr.heap.size, 2, none⟩ = some (.string p.text) := hrw.cell 2
        have hkk : p.kind = 1 ∨ p.kind = 2 ∨ p.kind = 3 := by
          rcases (unhide HG).1.cases with ⟨q, _⟩ | ⟨q, _⟩ | ⟨q, _⟩ <;> omega
        clear hpk hbA HB hrw hdr
        obtain ⟨w2, hw2⟩ : ∃ z, (wr.alloc (.cells #[.int .i64 p.kind, .int .i64 p.n, .string p.text] 39)) = z := ⟨_, rfl⟩
        have HW2 := hide hw2
        rw [hw2] at HB2 HBW2 r0 r1 r2
        rcases hkk with hk1 | hk1 | hk1
        · have hk := hk1
          rw [hk1] at e0 r0
          have hkc : ({ kind := p.kind, n := p.n, text := p.text } : Pt) = p := rfl
          have hw3 : wr.alloc (.cells #[.int .i64 1, .int .i64 p.n, .string p.text] 39) = w2 := by rw [← unhide HW2, hk1]
          clear hk1 hw2 hkc
          obtain ⟨cs, hcs, hai⟩ := (unhide HI).keep (unhide HG) hk
          have HM2 := hide (hai.most (unhide HAL))
          have HCUT := hide (cut_any sk cs p.n w2 ((unhide HT).call (unhide HBW2)) hcs (by have := unhide HSK; omega) (by have := (unhide HG).1.1; omega) (by have := (unhide HG).2; omega))
          have HFR := hide (hcs.front (cutK p.n cs))
          have HI2 := hide hai
          obtain ⟨fs, hfs⟩ : ∃ z, sk.extract 0 (placeOf cs (cutK p.n cs)) = z := ⟨_, rfl⟩
          obtain ⟨rs, hrs⟩ : ∃ z, sk.extract (placeOf cs (cutK p.n cs)) sk.size = z := ⟨_, rfl⟩
          rw [hfs] at HCUT HFR
          rw [hrs] at HCUT HI2
          clear hcs hai hk hfs hrs
          go_wp2_with fail
          refine Calls.mono (unhide HCUT) ?_
          rintro r w3 ⟨rfl, hb3⟩
          have HB3 := hide ((unhide HB2).call hb3)
          clear hb3 HB2 HCUT r0 r1 r2
          go_wp2_with fail
          refine Calls.mono (Bl.write_any (unhide HB3) fs (by have h1 := unhide HM2; rw [List.flatten_append, List.length_append, ← (unhide HFR).size] at h1; omega)) ?_
          rintro r w4 ⟨rfl, hb4⟩
          rw [(unhide HFR).eq, ← List.flatten_append] at hb4
          have HB4 := hide hb4
          clear hb4 HB3
          go_wp2_with fail
          exact ⟨⟨k + 1, rs, X ++ cs.take (cutK p.n cs), by omega, by simp, rfl, HB4, HI2⟩, by simp [intOf]; omega⟩
        · have hk := hk1
          rw [hk1] at e0 r0
          have hkc : ({ kind := p.kind, n := p.n, text := p.text } : Pt) = p := rfl
          have hw3 : wr.alloc (.cells #[.int .i64 2, .int .i64 p.n, .string p.text] 39) = w2 := by rw [← unhide HW2, hk1]
          clear hk1 hw2 hkc
          obtain ⟨ds, hds, hai⟩ := (unhide HI).put (unhide HG) hk
          have HDS := hide hds
          have HI2 := hide hai
          have HM2 := hide (hai.most (unhide HAL))
          clear hds hai hk
          go_wp2_with fail
          refine Calls.mono (Bl.write_any (unhide HB2) p.text (by have h1 := unhide HM2; rw [List.flatten_append, List.length_append, ← (unhide HDS).size] at h1; omega)) ?_
          rintro r w3 ⟨rfl, hb3⟩
          rw [(unhide HDS).eq, ← List.flatten_append] at hb3
          have HB3 := hide hb3
          clear hb3 HB2 r0 r1 r2
          go_wp2_with fail
          exact ⟨⟨k + 1, sk, X ++ ds, by omega, by simp, rfl, HB3, HI2⟩, by simp [intOf]; omega⟩
        · have hk := hk1
          rw [hk1] at e0 r0
          have hkc : ({ kind := p.kind, n := p.n, text := p.text } : Pt) = p := rfl
          have hw3 : wr.alloc (.cells #[.int .i64 3, .int .i64 p.n, .string p.text] 39) = w2 := by rw [← unhide HW2, hk1]
          clear hk1 hw2 hkc
          obtain ⟨cs, hcs, hai⟩ := (unhide HI).drop (unhide HG) hk
          have HCUT := hide (cut_any sk cs p.n w2 ((unhide HT).call (unhide HBW2)) hcs (by have := unhide HSK; omega) (by have := (unhide HG).1.1; omega) (by have := (unhide HG).2; omega))
          have HI2 := hide hai
          obtain ⟨fs, hfs⟩ : ∃ z, sk.extract 0 (placeOf cs (cutK p.n cs)) = z := ⟨_, rfl⟩
          obtain ⟨rs, hrs⟩ : ∃ z, sk.extract (placeOf cs (cutK p.n cs)) sk.size = z := ⟨_, rfl⟩
          rw [hfs] at HCUT
          rw [hrs] at HCUT HI2
          clear hcs hai hk hfs hrs
          go_wp2_with fail
          refine Calls.mono (unhide HCUT) ?_
          rintro r w3 ⟨rfl, hb3⟩
          have HB3 := hide ((unhide HB2).call hb3)
          clear hb3 HB2 HCUT r0 r1 r2
          go_wp2_with fail
          exact ⟨⟨k + 1, rs, X, by omega, by simp, rfl, HB3, HI2⟩, by simp [intOf]; omega⟩
      · obtain rfl : n = k := by omega
        have kI : ¬ (n : Int) < (n : Int) := by omega
        have hdn : l.drop n = [] := List.drop_of_length_le (by rw [unhide HN]; exact Nat.le_refl _)
        rw [hdn] at HI
        have HE := hide (unhide HI).ends
        have HCX := hide (unhide HI).cps
        clear hdn HI
        go_wp2_with fail
        refine Calls.mono (Bl.string_any (unhide HB)) ?_
        rintro r w3 ⟨rfl, hb3⟩
        have HB3 := hide ((unhide HB1).trans (hb3.mono (unhide HB1).size))
        clear hb3 HB
        go_wp2_with fail
        go_ret2
        exact ⟨.inr ⟨unhide HO, _, c0, unhide HTX, ⟨by rw [← unhide HE]; exact unhide HCX, by rw [← unhide HE]⟩, rfl⟩, unhide HB3⟩
end Go.Proofs.YtonabfpgdgnpnaaDoor
