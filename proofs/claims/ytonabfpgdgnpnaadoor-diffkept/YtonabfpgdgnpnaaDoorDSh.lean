/- DiffShort. -/
import Derived.Test.YtonabfpgdgnpnaaDoorDB
import Derived.Test.YtonabfpgdgnpnaaDoorWgt
import Derived.Test.YtonabfpgdgnpnaaDoorRow0
namespace Go.Proofs.YtonabfpgdgnpnaaDoor
set_option linter.unusedVariables false
set_option linter.unusedSimpArgs false
open Go.ChangeShapes Go.WideShapes Go.ChangeAt Go.RowKit Go.Joins Go.Deep

theorem wfold : ∀ (l : List Pt) (a b : Int), (∀ p ∈ l, Fit1 p) → l.foldl wStep (some (a, b)) = some (a + (At.putsN (atomsL l) : Int), b + (At.dropsN (atomsL l) : Int))
  | [], a, b, _ => by simp [atomsL, At.putsN, At.dropsN]
  | p :: l, a, b, h => by
    have hp := h p (List.mem_cons_self ..)
    have ih := fun a b => wfold l a b (fun q hq => h q (List.mem_cons_of_mem _ hq))
    have hf : fitsB p = true := fits_of_good hp.1 hp.2
    have hn := hp.1.1
    rw [List.foldl_cons]
    have hs : wStep (some (a, b)) p = some (if p.kind = 2 then a + p.n else a, if p.kind = 3 then b + p.n else b) := by simp [wStep, hf]
    rw [hs, ih, atomsL, At.puts_app, At.drops_app]
    rcases hp.1.cases with ⟨k, _, ea⟩ | ⟨k, _, ea⟩ | ⟨k, cs, h3, h4, ea⟩
    · rw [ea, puts_rep_k, drops_rep_k, if_neg (by omega), if_neg (by omega)]
      simp
    · rw [ea, puts_rep_d, drops_rep_d, if_neg (by omega), if_pos k]
      simp only [Option.some.injEq, Prod.mk.injEq]
      constructor
      · push_cast; omega
      · push_cast; omega
    · rw [ea, puts_map, drops_map, if_pos k, if_neg (by omega)]
      simp only [Option.some.injEq, Prod.mk.injEq]
      constructor
      · push_cast; omega
      · push_cast; omega
theorem ed_fit2 {l : List Pt} {f t : Nat} (h : IsEd l f t) : ∀ p ∈ l, Fit1 p := ed_fit h
theorem ed_wVal {l : List Pt} {f t : Nat} (h : IsEd l f t) : wVal l = .tuple #[.int .i64 (At.putsN (atomsL l) : Int), .int .i64 (At.dropsN (atomsL l) : Int)] := by
  have := wfold l 0 0 (ed_fit h)
  unfold wVal wL
  rw [this]
  simp
set_option maxRecDepth 100000 in
set_option maxHeartbeats 4000000 in
theorem short_law (a : ByteArray) (ae : Option Addr) (le : List Pt) (ce : Nat) (w : World) (hT : UT w) (h0a : a.size ≤ 140737488351232) (ee : Edit w ae le ce) : Calls Tryd.prog 6 #[.string a, .slice ae le.length ce] w fun r w' => r = .returned (.bool true) ∧ Below w.heap.size w w' := by
  have HU : Hid (∀ W, Below w.heap.size w W → UT W) := hide (fun W h => hT.call h)
  have bP : Below w.heap.size w (w.alloc (.cells #[.string a] 9)) := (Below.refl _ _).alloc (Nat.le_refl _) _
  have KS := hide (long_any w.heap.size (.slice (some ⟨w.heap.size, 0, none⟩) 1 1) [a] (w.alloc (.cells #[.string a] 9)) (own_row (RowAt.new w 9 [.string a]) (Nat.le_refl _) (by show 1 ≤ maxLen; unfold maxLen; omega)) (by simp))
  have B1 := hide bP
  obtain ⟨w1, hw1⟩ : ∃ z, w.alloc (.cells #[.string a] 9) = z := ⟨_, rfl⟩
  have HW1 := hide hw1
  rw [hw1] at KS B1
  clear hT bP hw1
  have HEE := hide ee
  have hcap := ee.cap
  have hcm := ee.max
  obtain ⟨m, hm⟩ : ∃ z, le.length = z := ⟨_, rfl⟩
  have HM := hide hm
  rw [hm] at hcap ⊢
  clear ee hm
  go_enter Tryd.func6, Tryd.ntmps6
  go_wp2_with fail
  try rw [unhide HW1]
  clear HW1
  refine Calls.mono (unhide KS) ?_
  rintro r w2 ⟨rfl, rfl⟩
  cases hlb : longB [a] with
  | true =>
    have KA := hide (awake_any w1 (unhide HU _ (unhide B1)))
    go_wp2_with fail
    refine Calls.mono (unhide KA) ?_
    rintro r w99 ⟨rfl, b99⟩
    have B99 := hide ((unhide B1).trans (b99.mono (unhide B1).size))
    clear b99
    go_wp2_with fail
    go_ret
    exact ⟨by first | rfl | (simp; done), unhide B99⟩
  | false =>
    have hsz : a.size ≤ 200 := by simpa [longB] using hlb
    clear hlb
    by_cases hml : m ≤ 100
    · have hmI : ¬ (100 : Int) < (m : Int) := by omega
      go_wp2_with fail
      go_loopw [26] (fun iv wr => ∃ k : Nat, k ≤ m ∧ iv = .int .i64 (k : Int) ∧ Hid (∀ i p, i < k → le[i]? = some p → p.text.size ≤ 200) ∧ Hid (Below w.heap.size w wr)) (fun iv _ => ((m : Int) - intOf iv).toNat)
      case atStart => exact ⟨0, by omega, by simp, hide (fun i p h => by omega), B1⟩
      case round =>
        clear B1
        obtain ⟨k, hk, rfl, HK, B1⟩ := hrel
        by_cases c1 : (k : Int) < (m : Int)
        · obtain ⟨p, hp⟩ : ∃ p, le[k]? = some p := ⟨_, List.getElem?_eq_getElem (by rw [unhide HM]; omega)⟩
          obtain ⟨b, off, rfl, e0, e1, e2⟩ := ((unhide HEE).pts).at_ (unhide B1) hp
          have HBA := hide ((unhide B1).alloc (unhide B1).size (.cells #[.int .i64 p.kind, .int .i64 p.n, .string p.text] 39))
          have HP := hide hp
          clear hp
          by_cases hbig : 200 < p.text.size
          · have hbI : (200 : Int) < (p.text.size : Int) := by omega
            clear HK
            have KA := hide (awake_any _ (unhide HU _ (unhide HBA)))
            go_wp2_with fail
            refine Calls.mono (unhide KA) ?_
            rintro r w99 ⟨rfl, b99⟩
            have B99 := hide ((unhide HBA).trans (b99.mono (unhide HBA).size))
            clear b99
            go_wp2_with fail
            go_ret
            exact ⟨by first | rfl | (simp; done), unhide B99⟩
          · have hbI : ¬ (200 : Int) < (p.text.size : Int) := by omega
            have HK2 : Hid (∀ i q, i < k + 1 → le[i]? = some q → q.text.size ≤ 200) := hide (fun i q hi hq => by
              by_cases e : i = k
              · subst e
                rw [unhide HP] at hq
                injection hq with e
                rw [← e]
                omega
              · exact unhide HK i q (by omega) hq)
            clear HK
            go_wp2_with fail
            exact ⟨⟨k + 1, by omega, by simp, HK2, HBA⟩, by simp [intOf]; omega⟩
        · obtain rfl : m = k := by omega
          have hkI : ¬ (m : Int) < (m : Int) := by omega
          have KA := hide (apply_at a (unhide HU _ (unhide B1)) ((unhide HEE).call (unhide B1)) (unhide HM) (by omega) (Below.refl wr.heap.size wr))
          go_wp2_with fail
          refine Calls.mono (unhide KA) ?_
          rintro r w3 ⟨h3, b3⟩
          have B3 := hide ((unhide B1).trans (b3.mono (unhide B1).size))
          clear b3 KA
          rcases h3 with ⟨_, rfl⟩ | ⟨ho, S, x, hx, hS, rfl⟩
          · 
            have KA := hide (awake_any w3 (unhide HU _ (unhide B3)))
            go_wp2_with fail
            refine Calls.mono (unhide KA) ?_
            rintro r w99 ⟨rfl, b99⟩
            have B99 := hide ((unhide B3).trans (b99.mono (unhide B3).size))
            clear b99
            go_wp2_with fail
            go_ret
            exact ⟨by first | rfl | (simp; done), unhide B99⟩
          · by_cases hSz : 800 < S.size
            · have hSI : (800 : Int) < (S.size : Int) := by omega
              clear hx hS ho
              have KA := hide (awake_any w3 (unhide HU _ (unhide B3)))
              go_wp2_with fail
              refine Calls.mono (unhide KA) ?_
              rintro r w99 ⟨rfl, b99⟩
              have B99 := hide ((unhide B3).trans (b99.mono (unhide B3).size))
              clear b99
              go_wp2_with fail
              go_ret
              exact ⟨by first | rfl | (simp; done), unhide B99⟩
            · have hSI : ¬ (800 : Int) < (S.size : Int) := by omega
              obtain ⟨xs, t, hxs, hed⟩ := apl_ok ho
              obtain rfl := hx.inj hxs
              have hxl : x.length ≤ 200 := by have h1 := hx.cps.len; rw [← hx.size] at h1; omega
              have hyl : (At.app (atomsL le) x).length ≤ 800 := by have h1 := hS.cps.len; rw [← hS.size] at h1; omega
              have hshort := lead_short (e := atomsL le) (x := x) hed.2.1
              have KD := hide (diff_any a S w3 (unhide HU _ (unhide B3)) (by omega) (by omega))
              have hf0 : firstE [a, S] = 0 := by
                have e1 := chk_tx hx
                have e2 := chk_tx hS
                rw [if_neg (by omega)] at e1 e2
                rw [firstE, if_pos e1, firstE, if_pos e2, firstE]
              have HF := hide (And.intro hf0 (And.intro hx (And.intro hS (And.intro hed (And.intro hxl (And.intro hyl hshort))))))
              have hKW := weight_any ae le ce
              clear hf0 ho hx hxs hS hed hxl hyl hshort hKW
              go_wp2_with fail
              refine Calls.mono (unhide KD) ?_
              rintro r w4 ⟨h4, b4⟩
              have B4 := hide ((unhide B3).trans (b4.mono (unhide B3).size))
              clear b4 KD
              rcases h4 with ⟨hf, _⟩ | ⟨hf, x2, y2, v, l, hx2, hy2, hl1, hl2, rfl, ho4, nf, at_⟩
              · exact absurd (unhide HF).1 hf
              · obtain rfl := (unhide HF).2.1.inj hx2
                obtain rfl := (unhide HF).2.2.1.inj hy2
                obtain ⟨d1, k1⟩ := lead_ed nf at_ hl1 hl2
                obtain ⟨a1, c1, e, hp1, hc1, hm1⟩ := ho4.slice
                subst e
                have KW1 := hide (weight_any a1 l c1 w4 (unhide HU _ (unhide B4)) hp1 (by omega) (ed_text d1))
                have KW2 := hide (fun W (hb : Below w.heap.size w W) => weight_any ae le ce W (unhide HU _ hb) ((unhide HEE).call hb).pts (by rw [unhide HM]; omega) (ed_text (unhide HF).2.2.2.1))
                rw [ed_wVal d1] at KW1
                rw [ed_wVal (unhide HF).2.2.2.1] at KW2
                obtain ⟨hs1, hs2⟩ := (unhide HF).2.2.2.2.2.2
                rw [show At.dropsN (leadA x (At.app (atomsL le) x)) = At.dropsN (atomsL l) by rw [at_, ← At.dropsN_sw (At.can_sw _)]] at hs1
                rw [show At.putsN (leadA x (At.app (atomsL le) x)) = At.putsN (atomsL l) by rw [at_, ← At.putsN_sw (At.can_sw _)]] at hs2
                obtain ⟨p1, hp1⟩ : ∃ z, At.putsN (atomsL l) = z := ⟨_, rfl⟩
                obtain ⟨p2, hp2⟩ : ∃ z, At.dropsN (atomsL l) = z := ⟨_, rfl⟩
                obtain ⟨q1, hq1⟩ : ∃ z, At.putsN (atomsL le) = z := ⟨_, rfl⟩
                obtain ⟨q2, hq2⟩ : ∃ z, At.dropsN (atomsL le) = z := ⟨_, rfl⟩
                rw [hp1, hp2] at KW1
                rw [hq1, hq2] at KW2
                rw [hp2, hq2] at hs1
                rw [hp1, hq1] at hs2
                have hI1 : (p2 : Int) ≤ (q2 : Int) := by omega
                have hI2 : (p1 : Int) ≤ (q1 : Int) := by omega
                obtain ⟨k, hk⟩ : ∃ z, l.length = z := ⟨_, rfl⟩
                rw [hk] at KW1 ⊢
                rw [unhide HM] at KW2
                clear hf hx2 hy2 hl1 hl2 ho4 nf at_ d1 k1 hc1 hm1 hp1 hp2 hq1 hq2 hs1 hs2 hk
                go_wp2_with fail
                refine Calls.mono (unhide KW1) ?_
                rintro r w5 ⟨rfl, b5⟩
                have B5 := hide ((unhide B4).trans (b5.mono (unhide B4).size))
                clear b5 KW1
                go_wp2_with fail
                refine Calls.mono (unhide KW2 _ (unhide B5)) ?_
                rintro r w6 ⟨rfl, b6⟩
                have B6 := hide ((unhide B5).trans (b6.mono (unhide B5).size))
                clear b6 KW2
                have KA := hide (awake_any w6 (unhide HU _ (unhide B6)))
                go_wp2_with fail
                refine Calls.mono (unhide KA) ?_
                rintro r w99 ⟨rfl, b99⟩
                have B99 := hide ((unhide B6).trans (b99.mono (unhide B6).size))
                clear b99
                go_wp2_with fail
                go_ret
                exact ⟨by first | rfl | (simp; done), unhide B99⟩
    · have hmI : (100 : Int) < (m : Int) := by omega
      have KA := hide (awake_any w1 (unhide HU _ (unhide B1)))
      go_wp2_with fail
      refine Calls.mono (unhide KA) ?_
      rintro r w99 ⟨rfl, b99⟩
      have B99 := hide ((unhide B1).trans (b99.mono (unhide B1).size))
      clear b99
      go_wp2_with fail
      go_ret
      exact ⟨by first | rfl | (simp; done), unhide B99⟩
end Go.Proofs.YtonabfpgdgnpnaaDoor
