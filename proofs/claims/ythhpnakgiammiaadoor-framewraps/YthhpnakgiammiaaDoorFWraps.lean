/- For any key, way and frame the Go function sealskinlaw13.FrameWraps returns true, and its arguments read as they did. No condition. -/
import Derived.Test.YthhpnakgiammiaaDoorFAll
import Derived.Test.YthhpnakgiammiaaDoorCCard
namespace Go.Proofs.YthhpnakgiammiaaDoor.fwraps
set_option linter.unusedVariables false
set_option linter.unusedSimpArgs false
open Go.ChangeShapes Go.WideShapes Go.ChangeAt Go.RowKit Go.Joins

theorem one37 (c s k : Int) (v : Value) (hv : v.oneCell' = true) : (#[.int .i64 c, .int .i64 s, .int .i64 k, v] : Array Value).all (·.oneCell') = true := by
  simp only [List.all_toArray, List.all_cons, List.all_nil, Bool.and_true, hv]; rfl
theorem cells22' : Tryd.prog.cellsOf 22 = 1 := by kernel_rfl
set_option maxRecDepth 100000 in
theorem bytes_of' {H : Type} {enc : TypeId × Value → H} {W : World} {base fuel : Nat} {spare : Nat → Bool} {held : Bool} {v : Value} {x : DataW H × List MemPlace}
    (hf : DataW.trod enc Tryd.prog W base spare held fuel 22 [v] = some x) : ∃ l : List Nat, Byt W v l ∧ ∀ y ∈ l, y < 256 := by
  rcases open_ints Tryd.underlying22 Tryd.underlying5 cells5 hf with ⟨hcs, _⟩ | ⟨a, n, cap, zs, hcs, _, hl, hm, hz, _, hc, hw⟩
  · simp at hcs
    subst hcs
    exact ⟨[], .inl ⟨rfl, rfl⟩, fun y hy => by cases hy⟩
  · simp at hcs
    subst hcs
    have hlz : n ≤ zs.length := by rw [hz]; split <;> omega
    have hb : ∀ z ∈ zs, 0 ≤ z ∧ z < 256 := fun z hz' => by
      have := bounds_u8 (hw z hz')
      omega
    refine ⟨(zs.take n).map Int.toNat, .inr ⟨a, cap, by simp [Nat.min_eq_left hlz], by simp [Nat.min_eq_left hlz]; exact hl, hm, fun i y hy => ?_⟩, fun y hy => ?_⟩
    · rw [List.getElem?_map] at hy
      obtain ⟨z, hz1, rfl⟩ := Option.map_eq_some_iff.1 hy
      have hi : i < n := by
        by_cases hi : i < n
        · exact hi
        · rw [List.getElem?_eq_none (by rw [List.length_take]; omega)] at hz1; cases hz1
      rw [List.getElem?_take_of_lt hi] at hz1
      rw [hc i (by omega), List.getD_eq_getElem?_getD, hz1]
      have := hb z (List.mem_of_getElem? hz1)
      simp
      omega
    · obtain ⟨z, hz1, rfl⟩ := List.mem_map.1 hy
      have := hb z (List.mem_of_mem_take hz1)
      omega

set_option maxRecDepth 100000 in
theorem open_frame {H : Type} {enc : TypeId × Value → H} {W : World} {b0 base : Nat} {spare : Nat → Bool} {held : Bool} {v : Value} {d : DataW H} {p : List MemPlace}
    (hv : Value.okWide Tryd.prog W .any b0 37 v) (h : DataW.Trod enc Tryd.prog W base spare held 37 v d p) :
    ∃ (c s k : Int) (ba : Option Addr) (bn bc : Nat) (body : List Nat), v = frV c s k (.slice ba bn bc) ∧ Byt W (.slice ba bn bc) body ∧ U8 body ∧ body.length = bn := by
  obtain ⟨cs, rfl, hsz⟩ := okWide_struct Tryd.underlying37 hv
  rw [show Tryd.prog.cellsOf 37 = 4 by kernel_rfl] at hsz
  obtain ⟨fuel, hf⟩ := h
  obtain ⟨xs, n, hk, hxy, _, hxl, hfl⟩ := DataW.trod_struct Tryd.underlying37 hf
  obtain ⟨l, rfl⟩ : ∃ l : List Value, cs = l.toArray := ⟨cs.toList, by simp⟩
  have hl4 : l.length = 4 := by simpa using hsz
  match l, hl4 with
  | [v0, v1, v2, v3], _ =>
    match xs, hxl with
    | [y0, y1, y2, y3], _ =>
      have g0 := hfl 0 _ rfl
      have g1 := hfl 1 _ rfl
      have g2 := hfl 2 _ rfl
      have g3 := hfl 3 _ rfl
      simp [cells3, cells22', Value.cells] at g0 g1 g2 g3
      obtain ⟨z0, hz0, _⟩ := DataW.trod_int Tryd.underlying3 g0
      obtain ⟨z1, hz1, _⟩ := DataW.trod_int Tryd.underlying3 g1
      obtain ⟨z2, hz2, _⟩ := DataW.trod_int Tryd.underlying3 g2
      simp at hz0 hz1 hz2
      subst hz0 hz1 hz2
      obtain ⟨l3, hY, h256⟩ := bytes_of' g3
      obtain ⟨ba, bc, rfl⟩ := byt_shape hY
      exact ⟨z0, z1, z2, ba, l3.length, bc, l3, rfl, hY, h256, rfl⟩

set_option maxRecDepth 100000 in
set_option maxHeartbeats 8000000 in
theorem walk (ka : Option Addr) (kn kc : Nat) (up : Bool) (c s k : Int) (ba : Option Addr) (bn bc : Nat) (key body : List Nat) (w : World) (hT : FLay w) (hk : Byt w (.slice ka kn kc) key) (hb : Byt w (.slice ba bn bc) body) (hk8 : U8 key) (hb8 : U8 body) (hkn : key.length = kn) (hbn : body.length = bn) :
    Calls Tryd.prog 7 #[.slice ka kn kc, .bool up, frV c s k (.slice ba bn bc)] w fun e w' => e = .returned (.bool true) ∧ Below w.heap.size w w' := by
  have HT := hide hT
  have HK := hide hk
  have HB := hide hb
  have b1 : Below w.heap.size w (w.alloc (.cells #[.int .i64 c, .int .i64 s, .int .i64 k, .slice ba bn bc] 37)) := (Below.refl _ _).alloc (Nat.le_refl _) _
  have R1 := RowAt.new w 37 [.int .i64 c, .int .i64 s, .int .i64 k, .slice ba bn bc]
  have HB1 := hide b1
  have HR1 := hide R1
  by_cases hs : 16384 < kn
  · have hsI : (16384 : Int) < (kn : Int) := by omega
    have HAW := hide (fawake_any _ (hT.below b1))
    clear hT hs hk hb b1 R1
    unfold frV
    go_enter Tryd.func7, Tryd.ntmps7
    go_wp2_with fail
    refine Calls.mono (unhide HAW) ?_
    rintro e w3 ⟨rfl, b3⟩
    have HB := hide ((unhide HB1).trans (b3.mono (unhide HB1).size))
    clear b3
    go_wp2_with fail
    go_ret
    exact ⟨rfl, unhide HB⟩
  · have hsI : ¬ (16384 : Int) < (kn : Int) := by omega
    have HF1 := hide (fun w => ffits_any c s k ba bn bc w)
    have HLV := hide (p := ∀ w', Below (w.alloc (.cells #[.int .i64 c, .int .i64 s, .int .i64 k, .slice ba bn bc] 37)).heap.size (w.alloc (.cells #[.int .i64 c, .int .i64 s, .int .i64 k, .slice ba bn bc] 37)) w' → w'.cell? ⟨w.heap.size, 0, none⟩ = some (.int .i64 c) ∧ w'.cell? ⟨w.heap.size, 1, none⟩ = some (.int .i64 s) ∧ w'.cell? ⟨w.heap.size, 2, none⟩ = some (.int .i64 k) ∧ w'.cell? ⟨w.heap.size, 3, none⟩ = some (.slice ba bn bc)) (fun w' hb' => ⟨(R1.below hb' R1.lt).cell 0, (R1.below hb' R1.lt).cell 1, (R1.below hb' R1.lt).cell 2, (R1.below hb' R1.lt).cell 3⟩)
    have HRR := hide (p := ∀ w', Below (w.alloc (.cells #[.int .i64 c, .int .i64 s, .int .i64 k, .slice ba bn bc] 37)).heap.size (w.alloc (.cells #[.int .i64 c, .int .i64 s, .int .i64 k, .slice ba bn bc] 37)) w' → w'.heap[w.heap.size]? = some (.cells #[.int .i64 c, .int .i64 s, .int .i64 k, .slice ba bn bc] 37 (0, 0))) (fun w' hb' => (R1.below hb' R1.lt).arr rfl)
    have HF2 := hide (fun w => rfits_any c s k ba bn bc w)
    by_cases hE : fitsE c s k bn = 0
    · obtain ⟨f1, f2, f3, f4, f5, f6, f7, f8⟩ := fits0 hE
      obtain ⟨sN, rfl⟩ := Int.eq_ofNat_of_zero_le f3
      have HW1 := hide (fun (w' : World) (hb' : Below w.heap.size w w') => wrap_any ka kn kc up c sN k ba bn bc key body w' (hT.below hb').1 (hk.call hb') (hb.call hb') hk8 hb8 hkn hbn hE)
      have HW2 := hide (fun (w' : World) (hb' : Below w.heap.size w w') => rwrap_any ka kn kc up c sN k ba bn bc key body w' (hk.call hb') (hb.call hb') hk8 hb8 hkn hbn hE)
      rw [hE] at HF1 HF2
      have HU8 : Hid (U8 (wrapL key up c sN k body)) := hide (u8_app (headL_8 _ _ _) (u8_app (tkL_8 _ _ hb8) (tagL_8 _ _ _ _)))
      clear hT hs hk hb hE b1 R1 f1 f2 f3 f4 f5 f6 f7 f8
      unfold frV at *
      by_cases hk64 : kn = 64
      · subst hk64
        go_enter Tryd.func7, Tryd.ntmps7
        go_wp2_with fail
        all_goals (
          generalize w.alloc (.cells #[.int .i64 c, .int .i64 (sN : Int), .int .i64 k, .slice ba bn bc] 37) = w1 at *
          have kb : Below w1.heap.size w1 w1.drew := (Below.refl _ _).drew
          go_region_held (fun w' => w'.cell? ⟨w.heap.size, 0, none⟩ = some (.int .i64 c) ∧ w'.cell? ⟨w.heap.size, 1, none⟩ = some (.int .i64 (sN : Int)) ∧ w'.cell? ⟨w.heap.size, 2, none⟩ = some (.int .i64 k) ∧ w'.cell? ⟨w.heap.size, 3, none⟩ = some (.slice ba bn bc))
            (first | exact unhide HLV _ k3 | exact unhide HLV _ k2 | exact unhide HLV _ kb)
            (first
              | (go_at_call 22; refine Calls.mono (unhide HF1 _) ?_; rintro e w2 ⟨rfl, b2⟩; have k2 := kb.trans (b2.mono kb.size))
              | (go_at_call 23; refine Calls.mono (unhide HF2 _) ?_; rintro e w3 ⟨rfl, b3⟩; have k3 := k2.trans (b3.mono k2.size)))
          obtain ⟨c0, c1, c2, c3⟩ := unhide HLV _ k3
          have HK3 := hide k3
          clear k2 k3 kb b2 b3 HF1 HF2
          go_wp2_with fail
          refine Calls.mono (unhide HW1 _ ((unhide HB1).trans ((unhide HK3).mono (unhide HB1).size))) ?_
          rintro e w4 ⟨b4, q4, q5⟩
          obtain ⟨v4, rfl, o4⟩ := q4 rfl
          have k4 := (unhide HK3).trans (b4.mono (unhide HK3).size)
          have HY4 := hide (Byt.of_own o4)
          clear c0 c1 c2 c3 b4 q4 q5 o4
          obtain ⟨c0, c1, c2, c3⟩ := unhide HLV _ k4
          have HK4 := hide k4
          clear k4 HK3 HW1
          go_wp2_with fail
          refine Calls.mono (unhide HW2 _ ((unhide HB1).trans ((unhide HK4).mono (unhide HB1).size))) ?_
          rintro e w5 ⟨b5, q4, q5⟩
          obtain ⟨v5, rfl, o5⟩ := q4 rfl
          have k5 := (unhide HK4).trans (b5.mono (unhide HK4).size)
          have HE := hide (equal_same v4 v5 _ w5 ((unhide HY4).call b5) (Byt.of_own o5) (unhide HU8))
          have HAW := hide (fawake_any w5 ((unhide HT).below ((unhide HB1).trans (k5.mono (unhide HB1).size))))
          have HB5 := hide ((unhide HB1).trans (k5.mono (unhide HB1).size))
          clear b5 k5 q4 q5 o5 HK4 HW2 c0 c1 c2 c3
          go_wp2_with fail
          refine Calls.mono (unhide HE) ?_
          rintro e wx ⟨rfl, rfl⟩
          go_wp2_with fail
          refine Calls.mono (unhide HAW) ?_
          rintro e w6 ⟨rfl, b6⟩
          have HB6 := hide ((unhide HB5).trans (b6.mono (unhide HB5).size))
          clear b6 HAW
          go_wp2_with fail
          go_ret
          exact ⟨rfl, unhide HB6⟩)
      · have HNK := hide hk64
        clear hk64
        go_enter Tryd.func7, Tryd.ntmps7
        go_wp2_with fail
        all_goals (
          generalize w.alloc (.cells #[.int .i64 c, .int .i64 (sN : Int), .int .i64 k, .slice ba bn bc] 37) = w1 at *
          have kb : Below w1.heap.size w1 w1.drew := (Below.refl _ _).drew
          go_region_held (fun w' => w'.cell? ⟨w.heap.size, 0, none⟩ = some (.int .i64 c) ∧ w'.cell? ⟨w.heap.size, 1, none⟩ = some (.int .i64 (sN : Int)) ∧ w'.cell? ⟨w.heap.size, 2, none⟩ = some (.int .i64 k) ∧ w'.cell? ⟨w.heap.size, 3, none⟩ = some (.slice ba bn bc))
            (first | exact unhide HLV _ k3 | exact unhide HLV _ k2 | exact unhide HLV _ kb)
            (first
              | (go_at_call 22; refine Calls.mono (unhide HF1 _) ?_; rintro e w2 ⟨rfl, b2⟩; have k2 := kb.trans (b2.mono kb.size))
              | (go_at_call 23; refine Calls.mono (unhide HF2 _) ?_; rintro e w3 ⟨rfl, b3⟩; have k3 := k2.trans (b3.mono k2.size)))
          obtain ⟨c0, c1, c2, c3⟩ := unhide HLV _ k3
          have HK3 := hide k3
          clear k2 k3 kb b2 b3 HF1 HF2
          go_wp2_with fail
          refine Calls.mono (unhide HW1 _ ((unhide HB1).trans ((unhide HK3).mono (unhide HB1).size))) ?_
          rintro e w4 ⟨b4, q4, q5⟩
          obtain rfl := q5 (unhide HNK)
          have k4 := (unhide HK3).trans (b4.mono (unhide HK3).size)
          clear c0 c1 c2 c3 b4 q4 q5
          obtain ⟨c0, c1, c2, c3⟩ := unhide HLV _ k4
          have HK4 := hide k4
          clear k4 HK3 HW1
          go_wp2_with fail
          refine Calls.mono (unhide HW2 _ ((unhide HB1).trans ((unhide HK4).mono (unhide HB1).size))) ?_
          rintro e w5 ⟨b5, q4, q5⟩
          obtain rfl := q5 (unhide HNK)
          have k5 := (unhide HK4).trans (b5.mono (unhide HK4).size)
          have HE := hide (equal_same (.slice none 0 0) (.slice none 0 0) [] w5 (.inl ⟨rfl, rfl⟩) (.inl ⟨rfl, rfl⟩) (fun y hy => by cases hy))
          have HAW := hide (fawake_any w5 ((unhide HT).below ((unhide HB1).trans (k5.mono (unhide HB1).size))))
          have HB5 := hide ((unhide HB1).trans (k5.mono (unhide HB1).size))
          clear b5 k5 q4 q5 HK4 HW2 c0 c1 c2 c3
          go_wp2_with fail
          refine Calls.mono (unhide HE) ?_
          rintro e wx ⟨rfl, rfl⟩
          go_wp2_with fail
          refine Calls.mono (unhide HAW) ?_
          rintro e w6 ⟨rfl, b6⟩
          have HB6 := hide ((unhide HB5).trans (b6.mono (unhide HB5).size))
          clear b6 HAW
          go_wp2_with fail
          go_ret
          exact ⟨rfl, unhide HB6⟩)
    · have HW1 := hide (fun w => wrap_bad (.slice ka kn kc) up c s k ba bn bc w hE)
      have HW2 := hide (fun w => rwrap_bad (.slice ka kn kc) up c s k ba bn bc w hE)
      obtain ⟨E, hEe⟩ : ∃ E, fitsE c s k bn = E := ⟨_, rfl⟩
      rw [hEe] at HF1 HF2 HW1 HW2
      have hg : bn ≤ 9223372036854775807 := by
        rcases hb with ⟨e, _⟩ | ⟨a', c', e, h1, h2, _⟩
        · injection e with e1 e2 e3; omega
        · injection e with e1 e2 e3; unfold maxLen at h2; omega
      clear hT hs hk hb hEe hE b1 R1
      unfold frV at *
      go_enter Tryd.func7, Tryd.ntmps7
      go_wp2_with fail
      all_goals (
        generalize w.alloc (.cells #[.int .i64 c, .int .i64 s, .int .i64 k, .slice ba bn bc] 37) = w1 at *
        have kb : Below w1.heap.size w1 w1.drew := (Below.refl _ _).drew
        go_region_held (fun w' => w'.cell? ⟨w.heap.size, 0, none⟩ = some (.int .i64 c) ∧ w'.cell? ⟨w.heap.size, 1, none⟩ = some (.int .i64 s) ∧ w'.cell? ⟨w.heap.size, 2, none⟩ = some (.int .i64 k) ∧ w'.cell? ⟨w.heap.size, 3, none⟩ = some (.slice ba bn bc))
          (first | exact unhide HLV _ k3 | exact unhide HLV _ k2 | exact unhide HLV _ kb)
          (first
            | (go_at_call 22; refine Calls.mono (unhide HF1 _) ?_; rintro e w2 ⟨rfl, b2⟩; have k2 := kb.trans (b2.mono kb.size))
            | (go_at_call 23; refine Calls.mono (unhide HF2 _) ?_; rintro e w3 ⟨rfl, b3⟩; have k3 := k2.trans (b3.mono k2.size)))
        obtain ⟨c0, c1, c2, c3⟩ := unhide HLV _ k3
        have HK3 := hide k3
        clear k2 k3 kb b2 b3 HF1 HF2
        go_wp2_with fail
        refine Calls.mono (unhide HW1 _) ?_
        rintro e w4 ⟨rfl, b4⟩
        have k4 := (unhide HK3).trans (b4.mono (unhide HK3).size)
        clear c0 c1 c2 c3 b4
        obtain ⟨c0, c1, c2, c3⟩ := unhide HLV _ k4
        have HK4 := hide k4
        clear k4 HK3 HW1
        go_wp2_with fail
        refine Calls.mono (unhide HW2 _) ?_
        rintro e w5 ⟨rfl, b5⟩
        have k5 := (unhide HK4).trans (b5.mono (unhide HK4).size)
        have HE := hide (equal_same (.slice none 0 0) (.slice none 0 0) [] w5 (.inl ⟨rfl, rfl⟩) (.inl ⟨rfl, rfl⟩) (fun y hy => by cases hy))
        have HAW := hide (fawake_any w5 ((unhide HT).below ((unhide HB1).trans (k5.mono (unhide HB1).size))))
        have HB5 := hide ((unhide HB1).trans (k5.mono (unhide HB1).size))
        clear b5 k5 HK4 HW2 c0 c1 c2 c3
        go_wp2_with fail
        refine Calls.mono (unhide HE) ?_
        rintro e wx ⟨rfl, rfl⟩
        go_wp2_with fail
        refine Calls.mono (unhide HAW) ?_
        rintro e w6 ⟨rfl, b6⟩
        have HB6 := hide ((unhide HB5).trans (b6.mono (unhide HB5).size))
        clear b6 HAW
        go_wp2_with fail
        go_ret
        exact ⟨rfl, unhide HB6⟩)
set_option maxRecDepth 100000 in
theorem contract (H : Type) (enc : TypeId × Value → H) (W : World) (base : Nat) (args : Array Value) (ds gs : List (DataW H)) (before : List MemPlace)
    (hval : ∀ (j : Nat) t v, Tryd.f7.params[j]? = some t → args[j]? = some v → Value.okWide Tryd.prog W .any base t v)
    (hW : DataW.Whole enc Tryd.prog Tryd.f7.params.toList Rows.frameWrapsSpec.vars false W args.toList ds gs before) (hL : laidMetH Tryd.prog Rows.frameWrapsRow.laid W) :
    Calls Tryd.prog 7 args W fun e W' => ∃ v, e = .returned v ∧ Rows.frameWrapsSpec.post enc Tryd.prog Tryd.f7 false true false false W args v W' := by
  have hT : FLay W := flay_of hL
  have hW' := hW
  obtain ⟨p, q, hA0, hV, rfl, hfz, hnd⟩ := hW
  have hA : DataW.TrodAll enc Tryd.prog W 0 (fun _ => true) true Tryd.f7.params.toList args.toList ds p := hA0
  rw [Tryd.params7] at hA hval
  obtain ⟨v0, vs0, d0, ds0, p0, q0, hargs, rfl, rfl, h0, r0⟩ := trodAll_cons hA
  obtain ⟨v1, vs1, d1, ds1, p1, q1, rfl, rfl, rfl, h1, r1⟩ := trodAll_cons r0
  obtain ⟨v2, vs2, d2, ds2, p2, q2, rfl, rfl, rfl, h2, r2⟩ := trodAll_cons r1
  obtain ⟨rfl, rfl, rfl⟩ := trodAll_nil r2
  obtain rfl : args = #[v0, v1, v2] := by cases args; simp_all
  obtain ⟨rfl, rfl⟩ := trodVars_none hV
  have lt0 : ∀ x ∈ p0, x.block < W.heap.size := by obtain ⟨m, hm⟩ := h0; exact DataW.trod_lt m _ _ _ hm
  have lt1 : ∀ x ∈ p1, x.block < W.heap.size := by obtain ⟨m, hm⟩ := h1; exact DataW.trod_lt m _ _ _ hm
  have lt2 : ∀ x ∈ p2, x.block < W.heap.size := by obtain ⟨m, hm⟩ := h2; exact DataW.trod_lt m _ _ _ hm
  obtain ⟨l0, hY0, h2560⟩ := open_bytes (hval 0 22 v0 rfl rfl) h0
  obtain ⟨ka, kc, rfl⟩ := byt_shape hY0
  obtain ⟨b1, rfl, _⟩ := open_bool Tryd.underlying4 (hval 1 4 v1 rfl rfl) h1
  obtain ⟨c2, s2, k2, ba, bn, bc, body, rfl, hYb, h8b, hlb⟩ := open_frame (hval 2 37 v2 rfl rfl) h2
  clear hA0
  refine (walk ka l0.length kc b1 c2 s2 k2 ba bn bc l0 body W hT hY0 hYb h2560 h8b rfl hlb).mono fun e W' ⟨he, bel⟩ => ?_
  subst he
  exact ⟨_, rfl, _, _, _, [], _, [], hW', trodAll_mk1 (shut_bool Tryd.underlying4 _), (trodAll_cons_mk (Below.trod laidOut (by kernel_rfl) (of_decide_eq_true (by kernel_rfl)) h0 bel lt0) (trodAll_cons_mk (Below.trod laidOut (by kernel_rfl) (of_decide_eq_true (by kernel_rfl)) h1 bel lt1) (trodAll_cons_mk (Below.trod laidOut (by kernel_rfl) (of_decide_eq_true (by kernel_rfl)) h2 bel lt2) trodAll_mk0))), rfl, bel.frame _, fun h => by cases h⟩

set_option maxRecDepth 100000 in
theorem laid_here (os : Os) : laidMet Tryd.prog Rows.frameWrapsRow.laid ((flaidWorld os).forCall (fun _ _ => 0) ⟨#[], #[.slice none 0 0, .bool false, .agg #[.int .i64 0, .int .i64 0, .int .i64 0, .slice none 0 0]], []⟩).memory :=
  laidMet_of_run' 8 (by kernel_rfl) (by kernel_rfl)
theorem reads (os : Os) {H : Type} (enc : TypeId × Value → H) : ∃ places, DataW.whole enc Tryd.prog ((flaidWorld os).forCall (fun _ _ => 0) ⟨#[], #[.slice none 0 0, .bool false, .agg #[.int .i64 0, .int .i64 0, .int .i64 0, .slice none 0 0]], []⟩).memory Tryd.f7.params.toList Rows.frameWrapsSpec.vars false (#[.slice none 0 0, .bool false, .agg #[.int .i64 0, .int .i64 0, .int .i64 0, .slice none 0 0]] : Array Value).toList 8 = some ([.nil, .lit (.bool false), .agg [.lit (.int .i64 0), .lit (.int .i64 0), .lit (.int .i64 0), .nil]], [], places) :=
  ⟨[], by kernel_rfl⟩

set_option maxRecDepth 100000 in
theorem lifted (os : Os) (started : os.Started) (H : Type) (enc : TypeId × Value → H) (F : Stop.Interp) :
    ReturnsInHanded {} Tryd.checked os 7 .any ((OpenSpec.ofChange Rows.frameWrapsSpec).preRow enc Tryd.prog Tryd.f7 Rows.frameWrapsRow.domain false Rows.frameWrapsRow.laid) (((OpenSpec.ofChange Rows.frameWrapsSpec).at F).post enc Tryd.prog Tryd.f7 false true false false) := by
  obtain ⟨places, hx⟩ := reads os enc
  refine returnsInHanded_of_row (C := Tryd.checked) (s := OpenSpec.ofChange Rows.frameWrapsSpec) own started (by kernel_rfl) Tryd.func7
    (witness_row_at (enc := enc) (C := Tryd.checked) false (flaidWorld os) #[.slice none 0 0, .bool false, .agg #[.int .i64 0, .int .i64 0, .int .i64 0, .slice none 0 0]] rfl (by kernel_rfl) (by kernel_rfl) (by kernel_rfl)
      (OpenSpec.preRow_of_cond 8 hx (by kernel_rfl) (fun k hk => by cases hk) (by kernel_rfl) (laid_here os))) ?_
  intro W base args ds gs before hval hW _ _ _ hL _ _
  exact contract H enc W base args ds gs before hval hW hL

theorem said : Rows.FrameWrapsSaid :=
  OpenClaim.holds_of_cond 7 Tryd.f7 rfl rfl rfl rfl rfl rfl rfl ⟨rfl, rfl, rfl, rfl, rfl⟩ rfl rfl rfl rfl rfl (by kernel_rfl) Tryd.func7 (by kernel_rfl)
    (of_decide_eq_true (by kernel_rfl)) (by unfold Func.isWrapper; first | (rw [if_pos (by decide +kernel)]; kernel_rfl) | (rw [if_neg (by decide +kernel)]; exact ⟨rfl, rfl⟩))
    (fun os started H enc _ F => by rw [OpenClaim.pre_eq_preRow]; exact lifted os started H enc F)

set_option maxRecDepth 100000 in
theorem plain (f : FuncId) (fn : Func) (hf : Tryd.pinned.checked.prog.funcNamed "sealskin/sealskinlaw13.FrameWraps" = some f) (hfn : Tryd.pinned.checked.prog.funcs[f]? = some fn) :
    false = Tryd.pinned.checked.prog.looks [] ∧ ∀ (j : Nat) t, fn.params[j]? = some t → Tryd.pinned.checked.prog.wantsStandIn t = false := by
  obtain rfl : f = 7 := Option.some.inj ((show Tryd.prog.funcNamed "sealskin/sealskinlaw13.FrameWraps" = some 7 by kernel_rfl).symm.trans hf) |>.symm
  obtain rfl : fn = Tryd.f7 := (Option.some.inj (Tryd.func7.symm.trans hfn)).symm
  refine ⟨by kernel_rfl, fun j t ht => ?_⟩
  rw [Tryd.params7] at ht
  have := Array.mem_of_getElem? ht
  simp at this
  rcases this with rfl | rfl | rfl
  · exact (show Tryd.prog.wantsStandIn 22 = false by kernel_rfl)
  · exact (show Tryd.prog.wantsStandIn 4 = false by kernel_rfl)
  · exact (show Tryd.prog.wantsStandIn 37 = false by kernel_rfl)

theorem proved : Rows.FrameWrapsCardSaid :=
  Claim7.holds_tied_plain_at .later [] _ _ _ _ said (fun _ h => by cases h) (by kernel_rfl) (fun _ h => by cases h) frameWraps_row_tie rfl ⟨rfl, rfl⟩ (by kernel_rfl) rfl plain (by kernel_rfl)
#print axioms proved

end Go.Proofs.YthhpnakgiammiaaDoor.fwraps
