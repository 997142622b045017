/- For any key, way and bytes the Go function sealskinlaw13.FrameOpens returns true, and its arguments read as they did. No condition. -/
import Derived.Test.YthhpnakgiammiaaDoorFOAll
import Derived.Test.YthhpnakgiammiaaDoorCCard
namespace Go.Proofs.YthhpnakgiammiaaDoor.fopens
set_option linter.unusedVariables false
set_option linter.unusedSimpArgs false
open Go.ChangeShapes Go.WideShapes Go.ChangeAt Go.RowKit Go.Joins

def Shows (c s k E : Int) (l : List Nat) (w : World) (e : Ending) (w' : World) : Prop := Below w.heap.size w w' ∧ ∃ (va : Option Addr) (vc : Nat), e = .returned (.tuple #[.agg #[.int .i64 c, .int .i64 s, .int .i64 k, .slice va l.length vc], .int .i64 E]) ∧ Byt w' (.slice va l.length vc) l
theorem shows_nil {c s k E : Int} {w w' : World} {e : Ending} (h : e = .returned (.tuple #[frV c s k (.slice none 0 0), .int .i64 E]) ∧ Below w.heap.size w w') : Shows c s k E [] w e w' :=
  ⟨h.2, none, 0, h.1, .inl ⟨rfl, rfl⟩⟩
theorem shows_byt {c s k E : Int} {l : List Nat} {w w' : World} {e : Ending} (hb : Below w.heap.size w w') (h : ∃ bv, e = .returned (.tuple #[frV c s k bv, .int .i64 E]) ∧ Byt w' bv l) : Shows c s k E l w e w' := by
  obtain ⟨bv, rfl, hy⟩ := h
  obtain ⟨va, vc, rfl⟩ := byt_shape hy
  exact ⟨hb, va, vc, rfl, hy⟩

set_option maxRecDepth 100000 in
set_option maxHeartbeats 8000000 in
theorem core (ka : Option Addr) (kn kc : Nat) (up : Bool) (ba : Option Addr) (bn bc : Nat) (w : World) (hT : FLay w) (hkn : ¬ 16384 < kn) (hbn : ¬ 16384 < bn) (c s k E c' s' k' E' : Int) (l : List Nat) (h8 : U8 l)
    (hp : ∀ w', Below w.heap.size w w' → Calls Tryd.prog 26 #[.slice ba bn bc] w' fun e w'' => e = .returned (.tuple #[.agg #[.int .i64 c, .int .i64 s, .int .i64 k, .slice none 0 0], .int .i64 E]) ∧ Below w'.heap.size w' w'')
    (hrp : ∀ w', Below w.heap.size w w' → Calls Tryd.prog 27 #[.slice ba bn bc] w' fun e w'' => e = .returned (.tuple #[.agg #[.int .i64 c, .int .i64 s, .int .i64 k, .slice none 0 0], .int .i64 E]) ∧ Below w'.heap.size w' w'')
    (hu : ∀ w', Below w.heap.size w w' → Calls Tryd.prog 28 #[.slice ka kn kc, .bool up, .slice ba bn bc] w' fun e w'' => Shows c' s' k' E' l w' e w'')
    (hru : ∀ w', Below w.heap.size w w' → Calls Tryd.prog 29 #[.slice ka kn kc, .bool up, .slice ba bn bc] w' fun e w'' => Shows c' s' k' E' l w' e w'') :
    Calls Tryd.prog 8 #[.slice ka kn kc, .bool up, .slice ba bn bc] w fun e w' => e = .returned (.bool true) ∧ Below w.heap.size w w' := by
  have HT := hide hT
  have H8 := hide h8
  have HP := hide hp
  have HRP := hide hrp
  have HU := hide hu
  have HRU := hide hru
  have HSF := hide (fun (c s k : Int) (v x : Value) (l : List Nat) (w : World) => same_frame c s k v x l w)
  unfold frV at HSF
  have h1 : ¬ (16384 : Int) < (kn : Int) := by omega
  have h2 : ¬ (16384 : Int) < (bn : Int) := by omega
  obtain ⟨n, hn⟩ : ∃ n, l.length = n := ⟨_, rfl⟩
  have HN := hide hn
  clear hT h8 hp hrp hu hru hkn hbn hn
  go_enter Tryd.func8, Tryd.ntmps8
  go_wp2_with fail
  refine Calls.mono (unhide HP _ (Below.refl _ _)) ?_
  rintro e w2 ⟨rfl, b2⟩
  have nb : Below w2.heap.size w2 (w2.alloc (.cells #[.int .i64 c, .int .i64 s, .int .i64 k, .slice none 0 0] 37)) := (Below.refl _ _).alloc (Nat.le_refl _) _
  have HB3 := hide (b2.trans (nb.mono b2.size))
  have RA3 := hide (RowAt.new w2 37 [.int .i64 c, .int .i64 s, .int .i64 k, .slice none 0 0])
  obtain ⟨ga, hga⟩ : ∃ x, w2.heap.size = x := ⟨_, rfl⟩
  rw [hga] at RA3
  clear b2 nb HP
  go_wp2_with fail
  try rw [hga]
  generalize w2.alloc (.cells #[.int .i64 c, .int .i64 s, .int .i64 k, .slice none 0 0] 37) = w3 at *
  clear hga
  refine Calls.mono (unhide HRP _ (unhide HB3)) ?_
  rintro e w4 ⟨rfl, b4⟩
  have B4 := (unhide HB3).trans (b4.mono (unhide HB3).size)
  have A4 := (unhide RA3).below b4 (unhide RA3).lt
  have nb : Below w4.heap.size w4 (w4.alloc (.cells #[.int .i64 c, .int .i64 s, .int .i64 k, .slice none 0 0] 37)) := (Below.refl _ _).alloc (Nat.le_refl _) _
  have HB5 := hide (B4.trans (nb.mono B4.size))
  have RC5 := hide (RowAt.new w4 37 [.int .i64 c, .int .i64 s, .int .i64 k, .slice none 0 0])
  have RA5 := hide (A4.below nb A4.lt)
  obtain ⟨gc, hgc⟩ : ∃ x, w4.heap.size = x := ⟨_, rfl⟩
  rw [hgc] at RC5
  clear b4 B4 A4 nb HB3 RA3 HRP
  go_wp2_with fail
  try rw [hgc]
  generalize w4.alloc (.cells #[.int .i64 c, .int .i64 s, .int .i64 k, .slice none 0 0] 37) = w5 at *
  clear hgc
  refine Calls.mono (unhide HU _ (unhide HB5)) ?_
  rintro e w6 ⟨b6, xa, xc, rfl, y6⟩
  rw [unhide HN] at y6 ⊢
  have B6 := (unhide HB5).trans (b6.mono (unhide HB5).size)
  have A6 := (unhide RA5).below b6 (unhide RA5).lt
  have C6 := (unhide RC5).below b6 (unhide RC5).lt
  have nb : Below w6.heap.size w6 (w6.alloc (.cells #[.int .i64 c', .int .i64 s', .int .i64 k', .slice xa n xc] 37)) := (Below.refl _ _).alloc (Nat.le_refl _) _
  have HB7 := hide (B6.trans (nb.mono B6.size))
  have RX7 := hide (RowAt.new w6 37 [.int .i64 c', .int .i64 s', .int .i64 k', .slice xa n xc])
  have RA7 := hide (A6.below nb A6.lt)
  have RC7 := hide (C6.below nb C6.lt)
  obtain ⟨gx, hgx⟩ : ∃ x, w6.heap.size = x := ⟨_, rfl⟩
  rw [hgx] at RX7
  have HY7 := hide (y6.call nb)
  clear b6 B6 A6 C6 y6 nb HB5 RA5 RC5 HU
  go_wp2_with fail
  try rw [hgx]
  generalize w6.alloc (.cells #[.int .i64 c', .int .i64 s', .int .i64 k', .slice xa n xc] 37) = w7 at *
  clear hgx
  refine Calls.mono (unhide HRU _ (unhide HB7)) ?_
  rintro e w8 ⟨b8, ya, yc, rfl, y8⟩
  rw [unhide HN] at y8 ⊢
  have B8 := (unhide HB7).trans (b8.mono (unhide HB7).size)
  have A8 := (unhide RA7).below b8 (unhide RA7).lt
  have C8 := (unhide RC7).below b8 (unhide RC7).lt
  have X8 := (unhide RX7).below b8 (unhide RX7).lt
  have nb : Below w8.heap.size w8 (w8.alloc (.cells #[.int .i64 c', .int .i64 s', .int .i64 k', .slice ya n yc] 37)) := (Below.refl _ _).alloc (Nat.le_refl _) _
  have HB9 := hide (B8.trans (nb.mono B8.size))
  have RY9 := hide (RowAt.new w8 37 [.int .i64 c', .int .i64 s', .int .i64 k', .slice ya n yc])
  have RA9 := hide (A8.below nb A8.lt)
  have RC9 := hide (C8.below nb C8.lt)
  have RX9 := hide (X8.below nb X8.lt)
  obtain ⟨gy, hgy⟩ : ∃ x, w8.heap.size = x := ⟨_, rfl⟩
  rw [hgy] at RY9
  have HX9 := hide (((unhide HY7).call b8).call nb)
  have HY9 := hide (y8.call nb)
  clear b8 B8 A8 C8 X8 y8 nb HB7 RA7 RC7 RX7 HY7 HRU
  have a0 := (unhide RA9).cell 0
  have a1 := (unhide RA9).cell 1
  have a2 := (unhide RA9).cell 2
  have a3 := (unhide RA9).cell 3
  have c0 := (unhide RC9).cell 0
  have c1 := (unhide RC9).cell 1
  have c2 := (unhide RC9).cell 2
  have c3 := (unhide RC9).cell 3
  go_wp2_with fail
  try rw [hgy]
  generalize w8.alloc (.cells #[.int .i64 c', .int .i64 s', .int .i64 k', .slice ya n yc] 37) = w9 at *
  clear hgy a0 a1 a2 a3 c0 c1 c2 c3
  refine Calls.mono (unhide HSF c s k (.slice none 0 0) (.slice none 0 0) [] _ (.inl ⟨rfl, rfl⟩) (.inl ⟨rfl, rfl⟩) (fun y hy => by cases hy)) ?_
  rintro e w10 ⟨rfl, b10⟩
  have HB10 := hide ((unhide HB9).trans (b10.mono (unhide HB9).size))
  have X10 := (unhide RX9).below b10 (unhide RX9).lt
  have Y10 := (unhide RY9).below b10 (unhide RY9).lt
  have HX10 := hide ((unhide HX9).call b10)
  have HY10 := hide ((unhide HY9).call b10)
  have a0 := X10.cell 0
  have a1 := X10.cell 1
  have a2 := X10.cell 2
  have a3 := X10.cell 3
  have c0 := Y10.cell 0
  have c1 := Y10.cell 1
  have c2 := Y10.cell 2
  have c3 := Y10.cell 3
  clear b10 X10 Y10 HB9 RA9 RC9 RX9 RY9 HX9 HY9
  go_wp2_with fail
  clear a0 a1 a2 a3 c0 c1 c2 c3
  refine Calls.mono (unhide HSF c' s' k' (.slice xa n xc) (.slice ya n yc) l _ (unhide HX10) (unhide HY10) (unhide H8)) ?_
  rintro e w11 ⟨rfl, b11⟩
  have B11 := (unhide HB10).trans (b11.mono (unhide HB10).size)
  have HAW := hide (fawake_any w11 ((unhide HT).below B11))
  have HB11 := hide B11
  clear b11 B11 HB10 HX10 HY10 HSF
  go_wp2_with fail
  refine Calls.mono (unhide HAW) ?_
  rintro e w12 ⟨rfl, b12⟩
  have HB12 := hide ((unhide HB11).trans (b12.mono (unhide HB11).size))
  clear b12 HAW
  go_wp2_with fail
  go_ret
  exact ⟨rfl, unhide HB12⟩

set_option maxRecDepth 100000 in
set_option maxHeartbeats 8000000 in
theorem long (ka : Option Addr) (kn kc : Nat) (up : Bool) (ba : Option Addr) (bn bc : Nat) (w : World) (hT : FLay w) (h : 16384 < kn ∨ 16384 < bn) :
    Calls Tryd.prog 8 #[.slice ka kn kc, .bool up, .slice ba bn bc] w fun e w' => e = .returned (.bool true) ∧ Below w.heap.size w w' := by
  have HAW := hide (fawake_any w hT)
  by_cases hs : 16384 < kn
  · have h1 : (16384 : Int) < (kn : Int) := by omega
    clear hT h hs
    go_enter Tryd.func8, Tryd.ntmps8
    go_wp2_with fail
    refine Calls.mono (unhide HAW) ?_
    rintro e w3 ⟨rfl, b3⟩
    have HB := hide b3
    clear b3
    go_wp2_with fail
    go_ret
    exact ⟨rfl, unhide HB⟩
  · have h1 : ¬ (16384 : Int) < (kn : Int) := by omega
    have h2 : (16384 : Int) < (bn : Int) := by omega
    clear hT h hs
    go_enter Tryd.func8, Tryd.ntmps8
    go_wp2_with fail
    refine Calls.mono (unhide HAW) ?_
    rintro e w3 ⟨rfl, b3⟩
    have HB := hide b3
    clear b3
    go_wp2_with fail
    go_ret
    exact ⟨rfl, unhide HB⟩

theorem walk (ka : Option Addr) (kn kc : Nat) (up : Bool) (ba : Option Addr) (bn bc : Nat) (key l : List Nat) (w : World) (hT : FLay w) (hk : Byt w (.slice ka kn kc) key) (hb : Byt w (.slice ba bn bc) l) (hk8 : U8 key) (hb8 : U8 l) (hkn : key.length = kn) (hbn : l.length = bn) :
    Calls Tryd.prog 8 #[.slice ka kn kc, .bool up, .slice ba bn bc] w fun e w' => e = .returned (.bool true) ∧ Below w.heap.size w w' := by
  by_cases hs : 16384 < kn ∨ 16384 < bn
  · exact long ka kn kc up ba bn bc w hT hs
  have n1 : ¬ 16384 < kn := fun h => hs (.inl h)
  have n2 : ¬ 16384 < bn := fun h => hs (.inr h)
  by_cases hok : PkOk l bn
  · have h40 : 40 ≤ bn := hok.2.2.2.1
    have hn2 : bn ≤ 16360 := hok.2.2.2.2.1
    have h24 : (l.take 24).length = 24 := by rw [List.length_take]; omega
    have hok' := hok
    unfold PkOk pkS at hok'
    rw [nx_iff _ _ _ _ h24 (by omega), nx_iff _ _ _ _ h24 (by omega), nx_iff _ _ _ _ h24 (by omega), take_piece l 0 (by omega), take_piece l 8 (by omega), take_piece l 16 (by omega), List.drop_zero] at hok'
    obtain ⟨c, hc⟩ : ∃ x, Oct.numOf (l.take 8) = x := ⟨_, rfl⟩
    obtain ⟨s, hss⟩ : ∃ x, Oct.numOf ((l.drop 8).take 8) = x := ⟨_, rfl⟩
    obtain ⟨k, hkk⟩ : ∃ x, Oct.numOf ((l.drop 16).take 8) = x := ⟨_, rfl⟩
    rw [hc, hss, hkk] at hok'
    obtain ⟨⟨_, c1, c2⟩, ⟨_, _, s2⟩, ⟨_, _, k2⟩, _, _, hsb⟩ := hok'
    have c1' : 1 ≤ c := by omega
    have c2' : c ≤ 1099511627776 := by omega
    have s2' : s ≤ 1099511627776 := by omega
    have k2' : k ≤ 1099511627776 := by omega
    obtain ⟨a, rfl⟩ : ∃ a, ba = some a := by
      rcases hb with ⟨e, rfl⟩ | ⟨a', c', e, _⟩
      · simp at hbn; omega
      · injection e with e1 e2 e3; exact ⟨a', e1⟩
    have hp : ∀ w', Below w.heap.size w w' → Calls Tryd.prog 26 #[.slice (some a) bn bc] w' fun e w'' => e = .returned (.tuple #[.agg #[.int .i64 c, .int .i64 s, .int .i64 k, .slice none 0 0], .int .i64 0]) ∧ Below w'.heap.size w' w'' := fun w' hw => peek_ok a bn bc l c s k w' (hb.call hw) hb8 hbn h40 hn2 hc hss hkk c1' c2' s2' k2' hsb
    have hrp : ∀ w', Below w.heap.size w w' → Calls Tryd.prog 27 #[.slice (some a) bn bc] w' fun e w'' => e = .returned (.tuple #[.agg #[.int .i64 c, .int .i64 s, .int .i64 k, .slice none 0 0], .int .i64 0]) ∧ Below w'.heap.size w' w'' := fun w' hw => by
      have h := rpeek_ok a bn bc l w' (hb.call hw) hb8 hbn h40 hn2 hok
      rw [take_piece l 0 (by omega), take_piece l 8 (by omega), take_piece l 16 (by omega), List.drop_zero, hc, hss, hkk] at h
      exact h
    have hu := fun w' (hw : Below w.heap.size w w') => unwrap_any ka kn kc up a bn bc key l c s k w' (hT.below hw).1 (hk.call hw) hk8 hkn (hb.call hw) hb8 hbn h40 hn2 hc hss hkk c1' c2' s2' k2' hsb
    have hru := fun w' (hw : Below w.heap.size w w') => runwrap_any ka kn kc up a bn bc key l c s k w' (hk.call hw) hk8 hkn (hb.call hw) hb8 hbn h40 hn2 hc hss hkk c1' c2' s2' k2' hsb
    by_cases h64 : kn = 64
    · by_cases hq : (l.drop 24).drop (bn - 40) = tagL key (onceU s up) (l.take 24) ((l.drop 24).take (bn - 40))
      · exact core ka kn kc up (some a) bn bc w hT n1 n2 c s k 0 c s k 0 (tkL key (onceU s up) ((l.drop 24).take (bn - 40))) (tkL_8 _ _ (fun y hy => hb8 y (List.mem_of_mem_drop (List.mem_of_mem_take hy)))) hp hrp
          (fun w' hw => (hu w' hw).mono fun e w'' h => shows_byt h.1 (h.2.2.2 h64 hq)) (fun w' hw => (hru w' hw).mono fun e w'' h => shows_byt h.1 (h.2.2.2 h64 hq))
      · exact core ka kn kc up (some a) bn bc w hT n1 n2 c s k 0 0 0 0 121 [] (fun y hy => by cases hy) hp hrp
          (fun w' hw => (hu w' hw).mono fun e w'' h => shows_nil ⟨h.2.2.1 h64 hq, h.1⟩) (fun w' hw => (hru w' hw).mono fun e w'' h => shows_nil ⟨h.2.2.1 h64 hq, h.1⟩)
    · exact core ka kn kc up (some a) bn bc w hT n1 n2 c s k 0 0 0 0 1 [] (fun y hy => by cases hy) hp hrp
        (fun w' hw => (hu w' hw).mono fun e w'' h => shows_nil ⟨h.2.1 h64, h.1⟩) (fun w' hw => (hru w' hw).mono fun e w'' h => shows_nil ⟨h.2.1 h64, h.1⟩)
  · exact core ka kn kc up ba bn bc w hT n1 n2 0 0 0 120 0 0 0 120 [] (fun y hy => by cases hy)
      (fun w' hw => peek_bad ba bn bc l w' (hb.call hw) hb8 hbn (by omega) hok) (fun w' hw => rpeek_no ba bn bc l w' (hb.call hw) hb8 hbn (by omega) hok)
      (fun w' hw => (unwrap_bad (.slice ka kn kc) up ba bn bc l w' (hb.call hw) hb8 hbn (by omega) hok).mono fun e w'' h => shows_nil h)
      (fun w' hw => (runwrap_bad (.slice ka kn kc) up ba bn bc l w' (hb.call hw) hb8 hbn (by omega) hok).mono fun e w'' h => shows_nil h)

set_option maxRecDepth 100000 in
theorem contract (H : Type) (enc : TypeId × Value → H) (W : World) (base : Nat) (args : Array Value) (ds gs : List (DataW H)) (before : List MemPlace)
    (hval : ∀ (j : Nat) t v, Tryd.f8.params[j]? = some t → args[j]? = some v → Value.okWide Tryd.prog W .any base t v)
    (hW : DataW.Whole enc Tryd.prog Tryd.f8.params.toList Rows.frameOpensSpec.vars false W args.toList ds gs before) (hL : laidMetH Tryd.prog Rows.frameOpensRow.laid W) :
    Calls Tryd.prog 8 args W fun e W' => ∃ v, e = .returned v ∧ Rows.frameOpensSpec.post enc Tryd.prog Tryd.f8 false true false false W args v W' := by
  have hT : FLay W := flay_of hL
  have hW' := hW
  obtain ⟨p, q, hA0, hV, rfl, hfz, hnd⟩ := hW
  have hA : DataW.TrodAll enc Tryd.prog W 0 (fun _ => true) true Tryd.f8.params.toList args.toList ds p := hA0
  rw [Tryd.params8] at hA hval
  obtain ⟨v0, vs0, d0, ds0, p0, q0, hargs, rfl, rfl, h0, r0⟩ := trodAll_cons hA
  obtain ⟨v1, vs1, d1, ds1, p1, q1, rfl, rfl, rfl, h1, r1⟩ := trodAll_cons r0
  obtain ⟨v2, vs2, d2, ds2, p2, q2, rfl, rfl, rfl, h2, r2⟩ := trodAll_cons r1
  obtain ⟨rfl, rfl, rfl⟩ := trodAll_nil r2
  obtain rfl : args = #[v0, v1, v2] := by cases args; simp_all
  obtain ⟨rfl, rfl⟩ := trodVars_none hV
  have lt0 : ∀ x ∈ p0, x.block < W.heap.size := by obtain ⟨m, hm⟩ := h0; exact DataW.trod_lt m _ _ _ hm
  have lt1 : ∀ x ∈ p1, x.block < W.heap.size := by obtain ⟨m, hm⟩ := h1; exact DataW.trod_lt m _ _ _ hm
  have lt2 : ∀ x ∈ p2, x.block < W.heap.size := by obtain ⟨m, hm⟩ := h2; exact DataW.trod_lt m _ _ _ hm
  obtain ⟨l0, hY0, h2560⟩ := open_bytes (hval 0 22 v0 rfl rfl) h0
  obtain ⟨ka, kc, rfl⟩ := byt_shape hY0
  obtain ⟨b1, rfl, _⟩ := open_bool Tryd.underlying4 (hval 1 4 v1 rfl rfl) h1
  obtain ⟨l2, hY2, h2562⟩ := open_bytes (hval 2 22 v2 rfl rfl) h2
  obtain ⟨ba, bc, rfl⟩ := byt_shape hY2
  clear hA0
  refine (walk ka l0.length kc b1 ba l2.length bc l0 l2 W hT hY0 hY2 h2560 h2562 rfl rfl).mono fun e W' ⟨he, bel⟩ => ?_
  subst he
  exact ⟨_, rfl, _, _, _, [], _, [], hW', trodAll_mk1 (shut_bool Tryd.underlying4 _), (trodAll_cons_mk (Below.trod laidOut (by kernel_rfl) (of_decide_eq_true (by kernel_rfl)) h0 bel lt0) (trodAll_cons_mk (Below.trod laidOut (by kernel_rfl) (of_decide_eq_true (by kernel_rfl)) h1 bel lt1) (trodAll_cons_mk (Below.trod laidOut (by kernel_rfl) (of_decide_eq_true (by kernel_rfl)) h2 bel lt2) trodAll_mk0))), rfl, bel.frame _, fun h => by cases h⟩

set_option maxRecDepth 100000 in
theorem laid_here (os : Os) : laidMet Tryd.prog Rows.frameOpensRow.laid ((flaidWorld os).forCall (fun _ _ => 0) ⟨#[], #[.slice none 0 0, .bool false, .slice none 0 0], []⟩).memory :=
  laidMet_of_run' 8 (by kernel_rfl) (by kernel_rfl)
theorem reads (os : Os) {H : Type} (enc : TypeId × Value → H) : ∃ places, DataW.whole enc Tryd.prog ((flaidWorld os).forCall (fun _ _ => 0) ⟨#[], #[.slice none 0 0, .bool false, .slice none 0 0], []⟩).memory Tryd.f8.params.toList Rows.frameOpensSpec.vars false (#[.slice none 0 0, .bool false, .slice none 0 0] : Array Value).toList 8 = some ([.nil, .lit (.bool false), .nil], [], places) :=
  ⟨[], by kernel_rfl⟩

set_option maxRecDepth 100000 in
theorem lifted (os : Os) (started : os.Started) (H : Type) (enc : TypeId × Value → H) (F : Stop.Interp) :
    ReturnsInHanded {} Tryd.checked os 8 .any ((OpenSpec.ofChange Rows.frameOpensSpec).preRow enc Tryd.prog Tryd.f8 Rows.frameOpensRow.domain false Rows.frameOpensRow.laid) (((OpenSpec.ofChange Rows.frameOpensSpec).at F).post enc Tryd.prog Tryd.f8 false true false false) := by
  obtain ⟨places, hx⟩ := reads os enc
  refine returnsInHanded_of_row (C := Tryd.checked) (s := OpenSpec.ofChange Rows.frameOpensSpec) own started (by kernel_rfl) Tryd.func8
    (witness_row_at (enc := enc) (C := Tryd.checked) false (flaidWorld os) #[.slice none 0 0, .bool false, .slice none 0 0] rfl (by kernel_rfl) (by kernel_rfl) (by kernel_rfl)
      (OpenSpec.preRow_of_cond 8 hx (by kernel_rfl) (fun k hk => by cases hk) (by kernel_rfl) (laid_here os))) ?_
  intro W base args ds gs before hval hW _ _ _ hL _ _
  exact contract H enc W base args ds gs before hval hW hL

theorem said : Rows.FrameOpensSaid :=
  OpenClaim.holds_of_cond 8 Tryd.f8 rfl rfl rfl rfl rfl rfl rfl ⟨rfl, rfl, rfl, rfl, rfl⟩ rfl rfl rfl rfl rfl (by kernel_rfl) Tryd.func8 (by kernel_rfl)
    (of_decide_eq_true (by kernel_rfl)) (by unfold Func.isWrapper; first | (rw [if_pos (by decide +kernel)]; kernel_rfl) | (rw [if_neg (by decide +kernel)]; exact ⟨rfl, rfl⟩))
    (fun os started H enc _ F => by rw [OpenClaim.pre_eq_preRow]; exact lifted os started H enc F)

set_option maxRecDepth 100000 in
theorem plain (f : FuncId) (fn : Func) (hf : Tryd.pinned.checked.prog.funcNamed "sealskin/sealskinlaw13.FrameOpens" = some f) (hfn : Tryd.pinned.checked.prog.funcs[f]? = some fn) :
    false = Tryd.pinned.checked.prog.looks [] ∧ ∀ (j : Nat) t, fn.params[j]? = some t → Tryd.pinned.checked.prog.wantsStandIn t = false := by
  obtain rfl : f = 8 := Option.some.inj ((show Tryd.prog.funcNamed "sealskin/sealskinlaw13.FrameOpens" = some 8 by kernel_rfl).symm.trans hf) |>.symm
  obtain rfl : fn = Tryd.f8 := (Option.some.inj (Tryd.func8.symm.trans hfn)).symm
  refine ⟨by kernel_rfl, fun j t ht => ?_⟩
  rw [Tryd.params8] at ht
  have := Array.mem_of_getElem? ht
  simp at this
  rcases this with rfl | rfl | rfl
  · exact (show Tryd.prog.wantsStandIn 22 = false by kernel_rfl)
  · exact (show Tryd.prog.wantsStandIn 4 = false by kernel_rfl)
  · exact (show Tryd.prog.wantsStandIn 22 = false by kernel_rfl)

theorem proved : Rows.FrameOpensCardSaid :=
  Claim7.holds_tied_plain_at .later [] _ _ _ _ said (fun _ h => by cases h) (by kernel_rfl) (fun _ h => by cases h) frameOpens_row_tie rfl ⟨rfl, rfl⟩ (by kernel_rfl) rfl plain (by kernel_rfl)
#print axioms proved

end Go.Proofs.YthhpnakgiammiaaDoor.fopens
