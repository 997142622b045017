/- What bytes show without a key, where they show it. -/
import Derived.Test.YtonkgiiacholeaaDoorORead
import Derived.Test.YtonkgiiacholeaaDoorFFits
import Derived.Test.YtonkgiiacholeaaDoorCOpen
import Derived.Test.YtonkgiiacholeaaDoorRefW
import Derived.Laws.ResultCell
namespace Go.Proofs.YtonkgiiacholeaaDoor
set_option linter.unusedVariables false
set_option linter.unusedSimpArgs false
open Go.ChangeShapes Go.WideShapes Go.ChangeAt Go.RowKit Go.Joins

theorem results_row_tmp {P : Program} {fn : Func} {p u : Tmp} {ty : TypeId} (h : fn.results = #[.cell p ty, .tmp u]) (tmps : Array Value) (w : World) (g : Nat) (t : TypeId) (cs : Array Value) (fr : Nat × Nat) (d : TypeDesc)
    (hp : tmps.getD p undef = .pointer (some ⟨g, 0, none⟩)) (hg : w.heap[g]? = some (.cells cs t fr))
    (hu : P.underlying ty = some d) (hd : (match d with | .struct _ | .array _ _ => true | _ => false) = true) (hi : (P.info? ty).map (·.size) = some cs.size) :
    (results fn tmps).run P w = .ok (.tuple #[.agg cs, tmps.getD u undef]) w := by
  rw [results_cell_tmp h, hp]
  simp [asAddr, _root_.Go.run_loadVar_row w g t ty cs fr d hg hu hd hi, Result.andThen]
theorem z37 : (Tryd.prog.info? 24).map (·.size) = some 4 := by kernel_rfl
theorem take_piece (l : List Nat) (k : Nat) (hk : k + 8 ≤ 24) : ((l.take 24).drop k).take 8 = (l.drop k).take 8 := by
  rw [List.drop_take, List.take_take, Nat.min_eq_left (by omega)]

set_option maxRecDepth 100000 in
set_option maxHeartbeats 4000000 in
theorem peek_ok (a : Addr) (n cap : Nat) (l : List Nat) (c s k : Nat) (w : World) (hv : Byt w (.slice (some a) n cap) l) (h8 : U8 l) (hn : l.length = n) (h40 : 40 ≤ n) (hn2 : n ≤ 16360)
    (hc : Oct.numOf (l.take 8) = c) (hs : Oct.numOf ((l.drop 8).take 8) = s) (hk : Oct.numOf ((l.drop 16).take 8) = k) (c1 : 1 ≤ c) (c2 : c ≤ 1099511627776) (s2 : s ≤ 1099511627776) (k2 : k ≤ 1099511627776) (hsb : s = 0 ↔ n = 40) :
    Calls Tryd.prog 17 #[.slice (some a) n cap] w fun e w' => e = .returned (.tuple #[frV c s k (.slice none 0 0), .int .i64 0]) ∧ Below w.heap.size w w' := by
  have hcap : n ≤ cap := by
    rcases hv with ⟨e, _⟩ | ⟨a', c', e, h1, _⟩
    · cases e
    · injection e with e1 e2 e3; omega
  have hmn : min (n : Int) 24 = 24 := by omega
  have hcI : (24 : Int) ≤ (cap : Int) := by omega
  obtain ⟨m, hm⟩ : ∃ m : Nat, n - 40 = m := ⟨_, rfl⟩
  have hmI : (n : Int) - 24 - 16 = (m : Int) := by omega
  have HWI := hide (fun w => within_in (m : Int) 0 16320 w (by omega) (by omega))
  have hm0 : s = 0 ↔ m = 0 := by omega
  have HM0 := hide hm0
  clear hm hm0
  have b1 : Below w.heap.size w (w.alloc (.cells #[.int .i64 0, .int .i64 0, .int .i64 0, .slice none 0 0] 24)) := (Below.refl _ _).alloc (Nat.le_refl _) _
  have hR := RowAt.new w 24 [.int .i64 0, .int .i64 0, .int .i64 0, .slice none 0 0]
  have HR := hide hR
  have HB1 := hide b1
  have HRD := hide (Oct.read_any (.slice (some a) 24 cap) (l.take 24) (w.alloc (.cells #[.int .i64 0, .int .i64 0, .int .i64 0, .slice none 0 0] 24)) ((hv.call b1).take 24 (by omega)) (by rw [List.length_take]; omega))
  clear hR b1
  have HN24 : Hid ((l.take 24).length = 24) := hide (by rw [List.length_take]; omega)
  have H256 : Hid (∀ y ∈ l.take 24, y < 256) := hide (fun y hy => h8 y (List.mem_of_mem_take hy))
  have p1 : Oct.numOf (((l.take 24).drop 0).take 8) = c := by rw [take_piece l 0 (by omega), List.drop_zero]; exact hc
  have p2 : Oct.numOf (((l.take 24).drop 8).take 8) = s := by rw [take_piece l 8 (by omega)]; exact hs
  have p3 : Oct.numOf (((l.take 24).drop 16).take 8) = k := by rw [take_piece l 16 (by omega)]; exact hk
  have P1 := hide p1
  have P2 := hide p2
  have P3 := hide p3
  generalize l.take 24 = l24 at *
  have HC1 := hide c1
  have HC2 := hide c2
  have HS2 := hide s2
  have HK2 := hide k2
  have HSB := hide hsb
  have H40 := hide h40
  have HNN := hide hn2
  clear p1 p2 p3 hc hs hk hv h8 hn
  go_enter Tryd.func17, Tryd.ntmps17
  go_wp2_with fail
  generalize w.alloc (.cells #[.int .i64 0, .int .i64 0, .int .i64 0, .slice none 0 0] 24) = w1 at *
  refine Calls.mono (unhide HRD) ?_
  rintro e w2 ⟨v2, g, rfl, hg, r2, y2, low2, b2⟩
  obtain ⟨va, vc, hve⟩ := byt_shape y2
  rw [unhide HN24] at hve
  subst hve
  have W1 := Oct.Within_any g va 24 vc l24 0 1 1099511627776 w2 y2 r2 low2 (by omega) (by omega) (unhide H256) c (unhide P1) ⟨by have := unhide HC1; omega, by have := unhide HC2; omega⟩ (by have := unhide HC2; omega)
  have HW1 := hide W1
  have HY2 := hide y2
  have HL2 := hide low2
  have R2 := (unhide HR).below b2 (unhide HR).lt
  have HR2 := hide R2
  have HGG : Hid (w.heap.size < g) := hide (by have := (unhide HR).lt; omega)
  have HB2 := hide ((unhide HB1).trans (b2.mono (unhide HB1).size))
  clear r2 y2 low2 b2 R2 W1 HRD HR HB1 hg
  go_wp2_with fail
  refine Calls.mono (unhide HW1) ?_
  rintro e w3 ⟨rfl, r3, b3⟩
  have y3 := Oct.Byt.low (unhide HY2) b3 (unhide HL2)
  have W2 := Oct.Within_any g va 24 vc l24 8 0 1099511627776 w3 y3 r3 (unhide HL2) (by omega) (by omega) (unhide H256) s (unhide P2) ⟨by omega, by have := unhide HS2; omega⟩ (by have := unhide HS2; omega)
  have HW2 := hide W2
  have HY3 := hide y3
  have HR3 := hide ((unhide HR2).below b3 (unhide HGG))
  have HB3 := hide ((unhide HB2).trans (b3.mono (Nat.le_of_lt (unhide HGG))))
  clear r3 b3 y3 W2 HW1 HY2 HR2 HB2
  go_wp2_with fail
  refine Calls.mono (unhide HW2) ?_
  rintro e w4 ⟨rfl, r4, b4⟩
  have y4 := Oct.Byt.low (unhide HY3) b4 (unhide HL2)
  have W3 := Oct.Within_any g va 24 vc l24 16 0 1099511627776 w4 y4 r4 (unhide HL2) (by omega) (by omega) (unhide H256) k (unhide P3) ⟨by omega, by have := unhide HK2; omega⟩ (by have := unhide HK2; omega)
  have HW3 := hide W3
  have HR4 := hide ((unhide HR3).below b4 (unhide HGG))
  have HB4 := hide ((unhide HB3).trans (b4.mono (Nat.le_of_lt (unhide HGG))))
  clear r4 b4 y4 W3 HW2 HY3 HR3 HB3
  go_wp2_with fail
  refine Calls.mono (unhide HW3) ?_
  rintro e w5 ⟨rfl, r5, b5⟩
  have hg5 : g < w5.heap.size := lt_of_cell r5.2.1
  have b6 : Below w5.heap.size w5 (w5.alloc (.cells #[.int .i64 (c : Int), .int .i64 (s : Int), .int .i64 (k : Int), .slice none 0 0] 24)) := (Below.refl _ _).alloc (Nat.le_refl _) _
  have HER := hide (Oct.err_any g _ _ 0 _ (r5.below (b6.mono hg5)))
  have hF := RowAt.new w5 24 [.int .i64 (c : Int), .int .i64 (s : Int), .int .i64 (k : Int), .slice none 0 0]
  have HF := hide hF
  have HG5 := hide hg5
  have HB6 := hide b6
  clear hF hg5 b6
  have HR5 := hide ((unhide HR4).below b5 (unhide HGG))
  have HB5 := hide ((unhide HB4).trans (b5.mono (Nat.le_of_lt (unhide HGG))))
  clear r5 b5 HW3 HR4 HB4
  go_wp2_with fail
  have HB7 := hide ((unhide HB5).trans ((unhide HB6).mono (by have := unhide HG5; have := unhide HGG; omega)))
  have HR7 := hide ((unhide HR5).below (unhide HB6) (unhide HR5).lt)
  have cz0 := (unhide HF).cell 1
  obtain ⟨gf, hgf⟩ : ∃ x, w5.heap.size = x := ⟨_, rfl⟩
  have HGF : Hid (w.heap.size < gf) := hide (by have := (unhide HR5).lt; omega)
  rw [hgf] at HF cz0
  clear HR5 HB5 HB6 HG5
  generalize w5.alloc (.cells #[.int .i64 (c : Int), .int .i64 (s : Int), .int .i64 (k : Int), .slice none 0 0] 24) = w6 at *
  refine Calls.mono (unhide HER) ?_
  rintro e wx ⟨rfl, rfl⟩
  have cz : w6.cell? ⟨gf, 1, none⟩ = some (.int .i64 (s : Int)) := cz0
  rw [hgf]
  clear HER cz0
  go_wp2_with fail
  refine Calls.mono (unhide HWI _) ?_
  rintro e wx ⟨rfl, rfl⟩
  obtain ⟨E, hE⟩ : ∃ E : Array Value, ([.int .i64 (c : Int), .int .i64 (s : Int), .int .i64 (k : Int), .slice none 0 0] : List Value).toArray = E := ⟨_, rfl⟩
  obtain ⟨Z, hZ⟩ : ∃ E : Array Value, ([.int .i64 0, .int .i64 0, .int .i64 0, .slice none 0 0] : List Value).toArray = E := ⟨_, rfl⟩
  have HE1 := hide ((unhide HF).arr hE)
  have HE2 := hide ((unhide HR7).arr hZ)
  have HES : Hid (E.size = 4) := hide (by rw [← hE]; rfl)
  have HZS : Hid (Z.size = 4) := hide (by rw [← hZ]; rfl)
  have HEO : Hid (E.all (·.oneCell') = true) := hide (by rw [← hE]; simp only [List.all_toArray, List.all_cons, List.all_nil, Bool.and_true]; rfl)
  have HEE := hide hE
  clear hE hZ
  obtain ⟨b, hb1, hb2⟩ : ∃ b, ((s : Int) == 0) = b ∧ ((m : Int) == 0) = b := by
    have h0 := unhide HM0
    by_cases h : s = 0
    · have h' := h0.1 h
      subst h h'
      exact ⟨true, rfl, rfl⟩
    · have h' : ¬ m = 0 := fun e => h (h0.2 e)
      exact ⟨false, by simp [h], by simp [h']⟩
  have hbx : (b == b) = true := by cases b <;> rfl
  have hbn : (!(b == b)) = false := by cases b <;> rfl
  have hbm : (b != b) = false := by cases b <;> rfl
  go_wp2_with (first
    | (refine wpList_load_row rfl 24 _ rfl gf (by kernel_rfl) 24 E (0, 0) _ (unhide HE1) Tryd.underlying24 rfl (by rw [z37, unhide HES]) ?_)
    | (refine wpList_store_row rfl 24 _ _ rfl w.heap.size E (by kernel_rfl) (by kernel_rfl) 24 Z (unhide HE2) (by rw [z37, unhide HES]) (by rw [unhide HES, unhide HZS]) (unhide HEO) ?_))
  refine bodyPost_ret (results_row_tmp Tryd.results17 _ _ w.heap.size 24 E (0, 0) _ rfl (setRow_heap _ _ _ _ _ _ (unhide HE2)) Tryd.underlying24 rfl (by rw [z37, unhide HES])) rfl ⟨?_, ?_⟩
  · rw [← unhide HEE]
    rfl
  · exact Below.trans (unhide HB7) ⟨rfl, rfl, rfl, by simp [World.setRow], fun k hk => setRow_other _ _ _ _ (by omega)⟩
end Go.Proofs.YtonkgiiacholeaaDoor
