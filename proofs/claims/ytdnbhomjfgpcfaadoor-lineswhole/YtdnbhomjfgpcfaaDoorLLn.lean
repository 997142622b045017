/- A line's text: Line. -/
import Derived.Test.YtdnbhomjfgpcfaaDoorLWh
import Derived.Laws.Cover4
namespace Go.Proofs.YtdnbhomjfgpcfaaDoor
set_option linter.unusedVariables false
set_option linter.unusedSimpArgs false
open Go.ChangeShapes Go.WideShapes Go.ChangeAt Go.RowKit Go.Joins Go.Deep

theorem enc_eq (r : Int) : Utf8.encode r = ⟨(Lib.encodeRune r).toArray⟩ := by
  unfold Utf8.encode Utf8.valid Lib.encodeRune
  by_cases h1 : r < 0
  · rw [Lib.encodeRuneZ_bad (.inl h1)]
    have : ((decide (0 ≤ r) && decide (r < 55296)) || (decide (57344 ≤ r) && decide (r ≤ 1114111))) = false := by
      simp only [Bool.or_eq_false_iff, Bool.and_eq_false_iff, decide_eq_false_iff_not]; omega
    simp only [this, Bool.false_eq_true, ↓reduceIte, Utf8.runeError]
    rfl
  · by_cases h2 : 1114111 < r
    · rw [Lib.encodeRuneZ_bad (.inr (.inr h2))]
      have : ((decide (0 ≤ r) && decide (r < 55296)) || (decide (57344 ≤ r) && decide (r ≤ 1114111))) = false := by
        simp only [Bool.or_eq_false_iff, Bool.and_eq_false_iff, decide_eq_false_iff_not]; omega
      simp only [this, Bool.false_eq_true, ↓reduceIte, Utf8.runeError]
      rfl
    · by_cases h3 : 55296 ≤ r ∧ r ≤ 57343
      · rw [Lib.encodeRuneZ_bad (.inr (.inl h3))]
        have : ((decide (0 ≤ r) && decide (r < 55296)) || (decide (57344 ≤ r) && decide (r ≤ 1114111))) = false := by
          simp only [Bool.or_eq_false_iff, Bool.and_eq_false_iff, decide_eq_false_iff_not]; omega
        simp only [this, Bool.false_eq_true, ↓reduceIte, Utf8.runeError]
        rfl
      · have : ((decide (0 ≤ r) && decide (r < 55296)) || (decide (57344 ≤ r) && decide (r ≤ 1114111))) = true := by
          simp only [Bool.or_eq_true, Bool.and_eq_true, decide_eq_true_eq]; omega
        simp only [this, if_true]
        obtain ⟨n, rfl⟩ : ∃ n : Nat, r = n := ⟨r.toNat, by omega⟩
        simp only [Int.toNat_natCast]
        by_cases k1 : n < 128
        · rw [Lib.encodeRuneZ_one (by omega) (by omega), if_pos k1]
          rfl
        · rw [if_neg k1]
          by_cases k2 : n < 2048
          · rw [Lib.encodeRuneZ_two (by omega) (by omega), if_pos k2]
            congr 1
          · rw [if_neg k2]
            by_cases k3 : n < 65536
            · rw [Lib.encodeRuneZ_three (by omega), if_pos k3]
              congr 1
            · rw [if_neg k3, Lib.encodeRuneZ_four (by omega) (by omega)]
              congr 1
theorem enc_cp {c : List UInt8} (h : Cp c) : Utf8.encode ((Lib.decodeL c).1 : Int) = ⟨c.toArray⟩ := by
  rw [enc_eq, Lib.encode_decode c h.ne h.ok, h.all, List.take_of_length_le (Nat.le_refl _)]
def tb (c : List (List UInt8)) : ByteArray := ⟨c.flatten.toArray⟩
def rni (cs : List (List UInt8)) : List Int := cs.map (fun c => (rn c : Int))
theorem bytes_fold : ∀ (cs : List (List UInt8)) (s : ByteArray), Cps cs → (rni cs).foldl (fun r n => r ++ Utf8.encode n) s = s ++ tb cs
  | [], s, h => by
    simp only [rni, tb, List.map_nil, List.foldl_nil, List.flatten_nil]
    exact ByteArray.ext (by simp)
  | c :: q, s, h => by
    have ih := bytes_fold q (s ++ Utf8.encode (rn c : Int)) h.tail
    simp only [rni, List.map_cons, List.foldl_cons] at ih ⊢
    rw [ih]
    have e : Utf8.encode (rn c : Int) = ⟨c.toArray⟩ := enc_cp h.head
    rw [e]
    refine ByteArray.ext (Array.toList_inj.1 ?_)
    simp [tb]
theorem runes_bytes {cs : List (List UInt8)} (h : Cps cs) : runesBytes (rni cs) = tb cs := by
  unfold runesBytes
  rw [bytes_fold cs _ h]
  refine ByteArray.ext (Array.toList_inj.1 ?_)
  simp [tb]
theorem Tx.tb {s : ByteArray} {c : List (List UInt8)} (h : Tx s c) : s = tb c := h.bytes
theorem tx_tb {c : List (List UInt8)} (h : Cps c) : Tx (tb c) c := ⟨h, by simp [tb]⟩
theorem st_end (cs : List (List UInt8)) {i : Nat} (hi : i < (sts cs).length) : (sts cs).getD i 0 ≤ endL cs i := by
  unfold endL
  have h0 : (sts cs)[i]? = some ((sts cs)[i]'hi) := List.getElem?_eq_getElem hi
  split
  · rename_i h
    have h1 : (sts cs)[i + 1]? = some ((sts cs)[i + 1]'h) := List.getElem?_eq_getElem h
    rw [List.getD_eq_getElem?_getD, List.getD_eq_getElem?_getD, h0, h1]
    have := List.pairwise_iff_getElem.1 (sts_sorted cs) i (i + 1) hi h (by omega)
    simp
    omega
  · rw [List.getD_eq_getElem?_getD, h0]
    exact sts_le (List.getElem_mem hi)
/-- what stands from a place to another one -/
def sub (cs : List (List UInt8)) (f e : Nat) : List (List UInt8) := (cs.drop f).take (e - f)
theorem conv_sub {w : World} {B gr n cr : Nat} {cs : List (List UInt8)} (h : w.ownsRow B 21 1 (.slice (some ⟨gr, 0, none⟩) n cr) n (rnv cs)) (hn : cs.length = n) (hcs : Cps cs) {f e : Nat} (hf : f ≤ e) (he : e ≤ n) (a1 : Option Addr) (ha : (if cr = f then some (⟨gr, 0, none⟩ : Addr) else some ⟨gr, f, none⟩) = a1) (c : Nat) :
    (convert 40 9 (.slice a1 (e - f) c)).run Tryd.prog w = .ok (.string (tb (sub cs f e))) w := by
  obtain ⟨_, hcap⟩ : True ∧ n ≤ cr := by
    rcases h.2 with ⟨e1, _⟩ | ⟨g, cap, cur, e1, _, _, h3, _⟩
    · injection e1 with e1; cases e1
    · injection e1 with _ _ e3; subst e3; exact ⟨trivial, h3⟩
  have hsl : (sub cs f e).length = e - f := by unfold sub; rw [List.length_take, List.length_drop]; omega
  have hzs : (rni (sub cs f e)).length = e - f := by simp [rni, hsl]
  by_cases hcf : cr = f
  · rw [if_pos hcf] at ha
    subst ha
    have h0 : e - f = 0 := by omega
    have hnil : sub cs f e = [] := List.eq_nil_of_length_eq_zero (by rw [hsl, h0])
    have k := run_convert_runes (P := Tryd.prog) w 40 9 21 ⟨gr, 0, none⟩ (e - f) c [] (by simp; omega) Tryd.underlying40 Tryd.underlying21 Tryd.underlying9 (fun j hj => by simp at hj)
    rw [k, hnil]
    simp [runesBytes, tb]
    rfl
  · rw [if_neg hcf] at ha
    subst ha
    have k := run_convert_runes (P := Tryd.prog) w 40 9 21 ⟨gr, f, none⟩ (e - f) c (rni (sub cs f e)) (by rw [hzs]; exact Nat.le_refl _) Tryd.underlying40 Tryd.underlying21 Tryd.underlying9 (fun j hj => by
      rw [hzs] at hj
      have hj2 : f + j < cs.length := by omega
      have hc : cs[f + j]? = some (cs[f + j]'hj2) := List.getElem?_eq_getElem hj2
      have hr := World.ownsRow.cells h (g := gr) rfl (f + j) (.int .i32 (rn (cs[f + j]'hj2) : Int)) (rnv_at hc)
      have hv : (rni (sub cs f e)).getD j 0 = (rn (cs[f + j]'hj2) : Int) := by
        rw [List.getD_eq_getElem?_getD]
        simp [rni, sub, List.getElem?_take, hj, hc]
      rw [hv]
      simpa [Addr.add_lit, Nat.add_assoc] using hr)
    rw [k, List.take_of_length_le (by rw [hzs]; exact Nat.le_refl _), runes_bytes (by unfold sub; exact (hcs.drop f).take _)]
def lineE (cs : List (List UInt8)) (i : Int) : Value := if 0 ≤ i ∧ i < ((sts cs).length : Int) then .tuple #[.string (tb (sub cs ((sts cs).getD i.toNat 0) (endL cs i.toNat))), .int .i64 0] else .tuple #[.string ⟨#[]⟩, .int .i64 1]
set_option maxRecDepth 100000 in
set_option maxHeartbeats 4000000 in
theorem line_ok {w : World} {B g : Nat} {vr vs : Value} {cs : List (List UInt8)} (h : Ix w B g vr vs cs) (hcs : Cps cs) (i : Int) (hl : cs.length ≤ 1099511627776) (hsome : ∃ gr cr, vr = .slice (some ⟨gr, 0, none⟩) cs.length cr) : Calls Tryd.prog 16 #[.pointer (some ⟨g, 0, none⟩), .int .i64 i] w fun r w' => r = .returned (lineE cs i) ∧ Below w.heap.size w w' := by
  obtain ⟨ar, cr, as_, c_, e1, e2, q0, q1⟩ := h.two
  obtain ⟨gr, cr2, e5⟩ := hsome
  rw [e5] at e1
  injection e1 with e1 _ e7
  subst e1 e7
  have KM := hide (made_ok g w as_ _ c_ q1 (sts_pos cs))
  have KL := hide (isLine_ok g i w as_ _ c_ q1)
  by_cases hi : 0 ≤ i ∧ i < ((sts cs).length : Int)
  · obtain ⟨k, rfl⟩ : ∃ k : Nat, i = (k : Int) := ⟨i.toNat, by omega⟩
    have hk : k < (sts cs).length := by omega
    obtain ⟨f, hf⟩ : ∃ f, (sts cs)[k]? = some f := ⟨_, List.getElem?_eq_getElem hk⟩
    have hfl := sts_le (List.mem_of_getElem? hf)
    have hel := end_le cs k
    have hfe := st_end cs hk
    rw [List.getD_eq_getElem?_getD, hf] at hfe
    simp only [Option.getD_some] at hfe
    have HE := hide (fun q : Nat => (end_ok (h.call (Go.Joins.below_draws w.heap.size w q)) hk hl).mono (fun _ _ x => And.intro x.1 x.2.symm))
    obtain ⟨gs, c2, e3, hc, _, hcc, _⟩ := own_rd h.s (u := .int .i64 (f : Int)) (i := k) (by simp [nsv, hf])
    rw [e2] at e3
    injection e3 with e3 _ e4
    subst e3 e4
    have hv : lineE cs (k : Int) = .tuple #[.string (tb (sub cs f (endL cs k))), .int .i64 0] := by
      unfold lineE
      rw [if_pos hi, Int.toNat_natCast, List.getD_eq_getElem?_getD, hf]
      rfl
    rw [hv]
    rw [show decide (0 ≤ (k : Int) ∧ (k : Int) < ((sts cs).length : Int)) = true by simp; omega] at KL
    obtain ⟨e, he⟩ : ∃ e, endL cs k = e := ⟨_, rfl⟩
    rw [he] at HE hel hfe ⊢
    obtain ⟨m, hm⟩ : ∃ z, (sts cs).length = z := ⟨_, rfl⟩
    obtain ⟨n, hn⟩ : ∃ z, cs.length = z := ⟨_, rfl⟩
    have hr := h.r
    rw [e5] at hr
    rw [hm] at q1 hk hcc hi
    rw [hn] at q0 hel hfl hl hr
    have hncr : n ≤ cr2 := by
      rcases hr.2 with ⟨e9, _⟩ | ⟨g9, cap, cur, e9, _, _, h3, _⟩
      · injection e9 with e9; cases e9
      · injection e9 with _ _ e3; subst e3; exact h3
    obtain ⟨a1, ha1⟩ : ∃ a1, (if cr2 = f then some (⟨gr, 0, none⟩ : Addr) else some ⟨gr, f, none⟩) = a1 := ⟨_, rfl⟩
    obtain ⟨S, hS⟩ : ∃ S, tb (sub cs f e) = S := ⟨_, rfl⟩
    have hcv : ∀ q c, (convert 40 9 (.slice a1 (e - f) c)).run Tryd.prog (w.drewN q) = .ok (.string S) (w.drewN q) := fun q c => by rw [← hS]; exact conv_sub (own_call hr (Go.Joins.below_draws w.heap.size w q)) hn hcs hfe hel a1 ha1 c
    rw [hS]
    have hlt : (k : Int) < (m : Int) := by omega
    have i0 : (0 : Int) ≤ (k : Int) := by omega
    have f0 : (0 : Int) ≤ (f : Int) := by omega
    have fe : (f : Int) ≤ (e : Int) := by omega
    have ec : (e : Int) ≤ (cr2 : Int) := by omega
    clear hv h e2 hf hi hm he hr hn hS
    go_enter Tryd.func16, Tryd.ntmps16
    go_wp2_with fail
    refine Calls.mono (unhide KM) ?_
    rintro r w1 ⟨rfl, rfl⟩
    go_wp2_with fail
    refine Calls.mono (unhide KL) ?_
    rintro r w1 ⟨rfl, rfl⟩
    go_wp2_with fail
    go_quiet ((go_at_call 48; exact Calls.quiet_of_same (unhide HE _)))
    have HB := hide (Go.Joins.below_draws w.heap.size w nq)
    go_wp2_with fail
    go_ret2
    exact ⟨rfl, unhide HB⟩
  · have hv : lineE cs i = .tuple #[.string ⟨#[]⟩, .int .i64 1] := by unfold lineE; rw [if_neg hi]
    rw [hv]
    rw [show decide (0 ≤ i ∧ i < ((sts cs).length : Int)) = false by simp; omega] at KL
    clear hv h e2 q0 q1 hi
    go_enter Tryd.func16, Tryd.ntmps16
    go_wp2_with fail
    refine Calls.mono (unhide KM) ?_
    rintro r w1 ⟨rfl, rfl⟩
    go_wp2_with fail
    refine Calls.mono (unhide KL) ?_
    rintro r w1 ⟨rfl, rfl⟩
    go_wp2_with fail
    go_ret2
    exact ⟨rfl, Below.refl _ _⟩
end Go.Proofs.YtdnbhomjfgpcfaaDoor
