/- For any key, way, frame and bytes the Go function sealskinlaw13.FrameTrip returns true, and its arguments read as they did. No condition. -/
import Derived.Test.YtonkgiiacholeaaDoorFTripM
import Derived.Test.YtonkgiiacholeaaDoorFSame
import Derived.Test.YtonkgiiacholeaaDoorFAwake
import Derived.Test.YtonkgiiacholeaaDoorFLaid
import Derived.Test.YtonkgiiacholeaaDoorCCard
namespace Go.Proofs.YtonkgiiacholeaaDoor.ftrip
set_option linter.unusedVariables false
set_option linter.unusedSimpArgs false
open Go.ChangeShapes Go.WideShapes Go.ChangeAt Go.RowKit Go.Joins

def Shows (c s k E : Int) (l : List Nat) (w : World) (e : Ending) (w' : World) : Prop := Below w.heap.size w w' ∧ ∃ (va : Option Addr) (vc : Nat), e = .returned (.tuple #[.agg #[.int .i64 c, .int .i64 s, .int .i64 k, .slice va l.length vc], .int .i64 E]) ∧ Byt w' (.slice va l.length vc) l
def Wr (L : List Nat) (WN : Nat) (w : World) (e : Ending) (w' : World) : Prop := Below w.heap.size w w' ∧ ∃ (va : Option Addr) (vc : Nat), e = .returned (.tuple #[.slice va WN vc, .int .i64 0]) ∧ Byt w' (.slice va WN vc) L
theorem one24 (c s k : Int) (v : Value) (hv : v.oneCell' = true) : (#[.int .i64 c, .int .i64 s, .int .i64 k, v] : Array Value).all (·.oneCell') = true := by
  simp only [List.all_toArray, List.all_cons, List.all_nil, Bool.and_true, hv]; rfl
theorem cells22' : Tryd.prog.cellsOf 22 = 1 := by kernel_rfl
set_option maxRecDepth 100000 in
theorem bytes_of' {H : Type} {enc : TypeId × Value → H} {W : World} {base fuel : Nat} {spare : Nat → Bool} {held : Bool} {v : Value} {x : DataW H × List MemPlace}
    (hf : DataW.trod enc Tryd.prog W base spare held fuel 22 [v] = some x) : ∃ l : List Nat, Byt W v l ∧ ∀ y ∈ l, y < 256 := by
  rcases open_ints Tryd.underlying22 Tryd.underlying5 cells5 hf with ⟨hcs, _⟩ | ⟨a, n, cap, zs, hcs, _, hl, hm, hz, _, hc, hw⟩
  · simp at hcs
    subst hcs
    exact ⟨[], .inl ⟨rfl, rfl⟩, fun y hy => by cases hy⟩
  · simp at hcs
    subst hcs
    have hlz : n ≤ zs.length := by rw [hz]; split <;> omega
    have hb : ∀ z ∈ zs, 0 ≤ z ∧ z < 256 := fun z hz' => by
      have := bounds_u8 (hw z hz')
      omega
    refine ⟨(zs.take n).map Int.toNat, .inr ⟨a, cap, by simp [Nat.min_eq_left hlz], by simp [Nat.min_eq_left hlz]; exact hl, hm, fun i y hy => ?_⟩, fun y hy => ?_⟩
    · rw [List.getElem?_map] at hy
      obtain ⟨z, hz1, rfl⟩ := Option.map_eq_some_iff.1 hy
      have hi : i < n := by
        by_cases hi : i < n
        · exact hi
        · rw [List.getElem?_eq_none (by rw [List.length_take]; omega)] at hz1; cases hz1
      rw [List.getElem?_take_of_lt hi] at hz1
      rw [hc i (by omega), List.getD_eq_getElem?_getD, hz1]
      have := hb z (List.mem_of_getElem? hz1)
      simp
      omega
    · obtain ⟨z, hz1, rfl⟩ := List.mem_map.1 hy
      have := hb z (List.mem_of_mem_take hz1)
      omega

set_option maxRecDepth 100000 in
theorem open_frame {H : Type} {enc : TypeId × Value → H} {W : World} {b0 base : Nat} {spare : Nat → Bool} {held : Bool} {v : Value} {d : DataW H} {p : List MemPlace}
    (hv : Value.okWide Tryd.prog W .any b0 24 v) (h : DataW.Trod enc Tryd.prog W base spare held 24 v d p) :
    ∃ (c s k : Int) (ba : Option Addr) (bn bc : Nat) (body : List Nat), v = frV c s k (.slice ba bn bc) ∧ Byt W (.slice ba bn bc) body ∧ U8 body ∧ body.length = bn := by
  obtain ⟨cs, rfl, hsz⟩ := okWide_struct Tryd.underlying24 hv
  rw [show Tryd.prog.cellsOf 24 = 4 by kernel_rfl] at hsz
  obtain ⟨fuel, hf⟩ := h
  obtain ⟨xs, n, hk, hxy, _, hxl, hfl⟩ := DataW.trod_struct Tryd.underlying24 hf
  obtain ⟨l, rfl⟩ : ∃ l : List Value, cs = l.toArray := ⟨cs.toList, by simp⟩
  have hl4 : l.length = 4 := by simpa using hsz
  match l, hl4 with
  | [v0, v1, v2, v3], _ =>
    match xs, hxl with
    | [y0, y1, y2, y3], _ =>
      have g0 := hfl 0 _ rfl
      have g1 := hfl 1 _ rfl
      have g2 := hfl 2 _ rfl
      have g3 := hfl 3 _ rfl
      simp [cells3, cells22', Value.cells] at g0 g1 g2 g3
      obtain ⟨z0, hz0, _⟩ := DataW.trod_int Tryd.underlying3 g0
      obtain ⟨z1, hz1, _⟩ := DataW.trod_int Tryd.underlying3 g1
      obtain ⟨z2, hz2, _⟩ := DataW.trod_int Tryd.underlying3 g2
      simp at hz0 hz1 hz2
      subst hz0 hz1 hz2
      obtain ⟨l3, hY, h256⟩ := bytes_of' g3
      obtain ⟨ba, bc, rfl⟩ := byt_shape hY
      exact ⟨z0, z1, z2, ba, l3.length, bc, l3, rfl, hY, h256, rfl⟩

set_option maxRecDepth 100000 in
set_option maxHeartbeats 8000000 in
theorem core_bad_bad (ka : Option Addr) (kn kc : Nat) (up : Bool) (c : Int) (s : Int) (k : Int) (ba : Option Addr) (bn bc : Nat) (bx : Option Addr) (xn bxc : Nat) (body lb : List Nat) (w : World) (hT : FLay w) (hkn : ¬ 16384 < kn) (hbn : ¬ 16384 < bn) (hxn : ¬ 16384 < xn) (h8 : U8 body) (hb8 : U8 lb) (hlen : body.length = bn) (hbd : Byt w (.slice ba bn bc) body) (hbb : Byt w (.slice bx xn bxc) lb)
    (EA : Int) (hEA : ¬ EA = 0) (hWA : ∀ w', Below w.heap.size w w' → Calls Tryd.prog 15 #[.slice ka kn kc, .bool up, .agg #[.int .i64 c, .int .i64 s, .int .i64 k, .slice ba bn bc]] w' fun e w'' => e = .returned (.tuple #[.slice none 0 0, .int .i64 EA]) ∧ Below w'.heap.size w' w'')
    (EB : Int) (hEB : ¬ EB = 0) (hUB : ∀ w', Below w.heap.size w w' → Calls Tryd.prog 16 #[.slice ka kn kc, .bool up, .slice bx xn bxc] w' fun e w'' => e = .returned (.tuple #[.agg #[.int .i64 0, .int .i64 0, .int .i64 0, .slice none 0 0], .int .i64 EB]) ∧ Below w'.heap.size w' w'') :
    Calls Tryd.prog 3 #[.slice ka kn kc, .bool up, .agg #[.int .i64 c, .int .i64 s, .int .i64 k, .slice ba bn bc], .slice bx xn bxc] w fun e w' => e = .returned (.bool true) ∧ Below w.heap.size w w' := by
  have HT := hide hT
  have H8 := hide h8
  have HB8 := hide hb8
  have HBD := hide (p := ∀ w', Below w.heap.size w w' → Byt w' (.slice ba bn bc) body) (fun w' hw => hbd.call hw)
  have HBB := hide (p := ∀ w', Below w.heap.size w w' → Byt w' (.slice bx xn bxc) lb) (fun w' hw => hbb.call hw)
  have HSF := hide (fun (c s k : Int) (v x : Value) (l : List Nat) (w : World) => same_frame c s k v x l w)
  unfold frV at HSF
  have HWA := hide hWA
  have HUB := hide hUB
  have h1 : ¬ (16384 : Int) < (kn : Int) := by omega
  have h2 : ¬ (16384 : Int) < (bn : Int) := by omega
  have h3 : ¬ (16384 : Int) < (xn : Int) := by omega
  have HN := hide hlen
  have b1 : Below w.heap.size w (w.alloc (.cells #[.int .i64 c, .int .i64 s, .int .i64 k, .slice ba bn bc] 24)) := (Below.refl _ _).alloc (Nat.le_refl _) _
  have R1 := RowAt.new w 24 [.int .i64 c, .int .i64 s, .int .i64 k, .slice ba bn bc]
  have HB1 := hide b1
  have HR1 := hide R1
  have hEA1 : (EA == 0) = false := beq_eq_false_iff_ne.2 hEA
  have hEB1 : (EB != 0) = true := by rw [bne_iff_ne]; exact hEB
  clear hT h8 hb8 hbd hbb hWA hUB hkn hbn hxn hlen b1
  have a3 := R1.cell 3
  clear R1
  go_enter Tryd.func3, Tryd.ntmps3
  go_wp2_with fail
  all_goals (
    generalize w.alloc (.cells #[.int .i64 c, .int .i64 s, .int .i64 k, .slice ba bn bc] 24) = w1 at *
    refine Calls.mono (unhide HWA _ (unhide HB1)) ?_
    rintro e wm ⟨rfl, b2⟩
    have HB7 := hide ((unhide HB1).trans (b2.mono (unhide HB1).size))
    clear b2 HWA HB1 HR1
    go_wp2_with fail
    refine Calls.mono (unhide HUB _ (unhide HB7)) ?_
    rintro e w8 ⟨rfl, b8⟩
    have B8 := (unhide HB7).trans (b8.mono (unhide HB7).size)
    have nb : Below w8.heap.size w8 (w8.alloc (.cells #[.int .i64 0, .int .i64 0, .int .i64 0, .slice none 0 0] 24)) := (Below.refl _ _).alloc (Nat.le_refl _) _
    have HB9 := hide (B8.trans (nb.mono B8.size))
    have RG := RowAt.new w8 24 [.int .i64 0, .int .i64 0, .int .i64 0, .slice none 0 0]
    obtain ⟨gx, hgx⟩ : ∃ x, w8.heap.size = x := ⟨_, rfl⟩
    rw [hgx] at RG
    have a0 := RG.cell 0
    have a1 := RG.cell 1
    have a2 := RG.cell 2
    have a3 := RG.cell 3
    clear b8 B8 nb RG HB7 HUB
    go_wp2_with fail
    try rw [hgx]
    generalize w8.alloc (.cells #[.int .i64 0, .int .i64 0, .int .i64 0, .slice none 0 0] 24) = w9 at *
    clear hgx a0 a1 a2 a3
    refine Calls.mono (unhide HSF 0 0 0 (.slice none 0 0) (.slice none 0 0) [] _ (.inl ⟨rfl, rfl⟩) (.inl ⟨rfl, rfl⟩) (fun y hy => by cases hy)) ?_
    rintro e w10 ⟨rfl, b10⟩
    have HB11 := hide ((unhide HB9).trans (b10.mono (unhide HB9).size))
    clear b10 HB9
    have HAW := hide (fawake_any _ ((unhide HT).below (unhide HB11)))
    go_wp2_with fail
    refine Calls.mono (unhide HAW) ?_
    rintro e w12 ⟨rfl, b12⟩
    have HB12 := hide ((unhide HB11).trans (b12.mono (unhide HB11).size))
    clear b12 HAW
    go_wp2_with fail
    go_ret
    exact ⟨rfl, unhide HB12⟩)

set_option maxRecDepth 100000 in
set_option maxHeartbeats 8000000 in
theorem core_bad_ok (ka : Option Addr) (kn kc : Nat) (up : Bool) (c : Int) (s : Int) (k : Int) (ba : Option Addr) (bn bc : Nat) (bx : Option Addr) (xn bxc : Nat) (body lb : List Nat) (w : World) (hT : FLay w) (hkn : ¬ 16384 < kn) (hbn : ¬ 16384 < bn) (hxn : ¬ 16384 < xn) (h8 : U8 body) (hb8 : U8 lb) (hlen : body.length = bn) (hbd : Byt w (.slice ba bn bc) body) (hbb : Byt w (.slice bx xn bxc) lb)
    (EA : Int) (hEA : ¬ EA = 0) (hWA : ∀ w', Below w.heap.size w w' → Calls Tryd.prog 15 #[.slice ka kn kc, .bool up, .agg #[.int .i64 c, .int .i64 s, .int .i64 k, .slice ba bn bc]] w' fun e w'' => e = .returned (.tuple #[.slice none 0 0, .int .i64 EA]) ∧ Below w'.heap.size w' w'')
    (c2 s2 k2 : Int) (body2 : List Nat) (hUB : ∀ w', Below w.heap.size w w' → Calls Tryd.prog 16 #[.slice ka kn kc, .bool up, .slice bx xn bxc] w' fun e w'' => Shows c2 s2 k2 0 body2 w' e w'') (hWB : ∀ w' va vc, Below w.heap.size w w' → Byt w' (.slice va body2.length vc) body2 → Calls Tryd.prog 15 #[.slice ka kn kc, .bool up, .agg #[.int .i64 c2, .int .i64 s2, .int .i64 k2, .slice va body2.length vc]] w' fun e w'' => Wr lb xn w' e w'') :
    Calls Tryd.prog 3 #[.slice ka kn kc, .bool up, .agg #[.int .i64 c, .int .i64 s, .int .i64 k, .slice ba bn bc], .slice bx xn bxc] w fun e w' => e = .returned (.bool true) ∧ Below w.heap.size w w' := by
  have HT := hide hT
  have H8 := hide h8
  have HB8 := hide hb8
  have HBD := hide (p := ∀ w', Below w.heap.size w w' → Byt w' (.slice ba bn bc) body) (fun w' hw => hbd.call hw)
  have HBB := hide (p := ∀ w', Below w.heap.size w w' → Byt w' (.slice bx xn bxc) lb) (fun w' hw => hbb.call hw)
  have HSF := hide (fun (c s k : Int) (v x : Value) (l : List Nat) (w : World) => same_frame c s k v x l w)
  unfold frV at HSF
  have HWA := hide hWA
  have HUB := hide hUB
  have h1 : ¬ (16384 : Int) < (kn : Int) := by omega
  have h2 : ¬ (16384 : Int) < (bn : Int) := by omega
  have h3 : ¬ (16384 : Int) < (xn : Int) := by omega
  have HN := hide hlen
  have b1 : Below w.heap.size w (w.alloc (.cells #[.int .i64 c, .int .i64 s, .int .i64 k, .slice ba bn bc] 24)) := (Below.refl _ _).alloc (Nat.le_refl _) _
  have R1 := RowAt.new w 24 [.int .i64 c, .int .i64 s, .int .i64 k, .slice ba bn bc]
  have HB1 := hide b1
  have HR1 := hide R1
  have hEA1 : (EA == 0) = false := beq_eq_false_iff_ne.2 hEA
  have HWB := hide hWB
  obtain ⟨n2, hn2⟩ : ∃ n, body2.length = n := ⟨_, rfl⟩
  rw [hn2] at HWB
  have HN2 := hide hn2
  clear hn2 hWB
  clear hT h8 hb8 hbd hbb hWA hUB hkn hbn hxn hlen b1
  have a3 := R1.cell 3
  clear R1
  go_enter Tryd.func3, Tryd.ntmps3
  go_wp2_with fail
  all_goals (
    generalize w.alloc (.cells #[.int .i64 c, .int .i64 s, .int .i64 k, .slice ba bn bc] 24) = w1 at *
    refine Calls.mono (unhide HWA _ (unhide HB1)) ?_
    rintro e wm ⟨rfl, b2⟩
    have HB7 := hide ((unhide HB1).trans (b2.mono (unhide HB1).size))
    clear b2 HWA HB1 HR1
    go_wp2_with fail
    refine Calls.mono (unhide HUB _ (unhide HB7)) ?_
    rintro e w8 ⟨b8, ya, yc, rfl, y8⟩
    rw [unhide HN2] at y8 ⊢
    have B8 := (unhide HB7).trans (b8.mono (unhide HB7).size)
    have nb : Below w8.heap.size w8 (w8.alloc (.cells #[.int .i64 c2, .int .i64 s2, .int .i64 k2, .slice ya n2 yc] 24)) := (Below.refl _ _).alloc (Nat.le_refl _) _
    have HB9 := hide (B8.trans (nb.mono B8.size))
    have RG := RowAt.new w8 24 [.int .i64 c2, .int .i64 s2, .int .i64 k2, .slice ya n2 yc]
    obtain ⟨gx, hgx⟩ : ∃ x, w8.heap.size = x := ⟨_, rfl⟩
    rw [hgx] at RG
    have HW9 := hide (unhide HWB _ ya yc (unhide HB9) (y8.call nb))
    have a0 := RG.cell 0
    have a1 := RG.cell 1
    have a2 := RG.cell 2
    have a3 := RG.cell 3
    clear b8 B8 nb y8 RG HB7 HUB HWB
    go_wp2_with fail
    try rw [hgx]
    generalize w8.alloc (.cells #[.int .i64 c2, .int .i64 s2, .int .i64 k2, .slice ya n2 yc] 24) = w9 at *
    clear hgx a0 a1 a2 a3
    refine Calls.mono (unhide HW9) ?_
    rintro e w10 ⟨b10, wa2, wc2, rfl, y10⟩
    have HB10 := hide ((unhide HB9).trans (b10.mono (unhide HB9).size))
    have HE := hide (equal_same (.slice wa2 xn wc2) (.slice bx xn bxc) lb w10 y10 (unhide HBB _ (unhide HB10)) (unhide HB8))
    clear b10 y10 HB9 HW9
    go_wp2_with fail
    refine Calls.mono (unhide HE) ?_
    rintro e w11 ⟨rfl, rfl⟩
    have HB11 := HB10
    have HAW := hide (fawake_any _ ((unhide HT).below (unhide HB11)))
    go_wp2_with fail
    refine Calls.mono (unhide HAW) ?_
    rintro e w12 ⟨rfl, b12⟩
    have HB12 := hide ((unhide HB11).trans (b12.mono (unhide HB11).size))
    clear b12 HAW
    go_wp2_with fail
    go_ret
    exact ⟨rfl, unhide HB12⟩)

set_option maxRecDepth 100000 in
set_option maxHeartbeats 8000000 in
theorem core_ok_bad (ka : Option Addr) (kn kc : Nat) (up : Bool) (c : Int) (s : Int) (k : Int) (ba : Option Addr) (bn bc : Nat) (bx : Option Addr) (xn bxc : Nat) (body lb : List Nat) (w : World) (hT : FLay w) (hkn : ¬ 16384 < kn) (hbn : ¬ 16384 < bn) (hxn : ¬ 16384 < xn) (h8 : U8 body) (hb8 : U8 lb) (hlen : body.length = bn) (hbd : Byt w (.slice ba bn bc) body) (hbb : Byt w (.slice bx xn bxc) lb)
    (L : List Nat) (WN : Nat) (hWA : ∀ w', Below w.heap.size w w' → Calls Tryd.prog 15 #[.slice ka kn kc, .bool up, .agg #[.int .i64 c, .int .i64 s, .int .i64 k, .slice ba bn bc]] w' fun e w'' => Wr L WN w' e w'') (hUA : ∀ w' va vc, Below w.heap.size w w' → Byt w' (.slice va WN vc) L → Calls Tryd.prog 16 #[.slice ka kn kc, .bool up, .slice va WN vc] w' fun e w'' => Shows c s k 0 body w' e w'') (hPA : ∀ w' va vc, Below w.heap.size w w' → Byt w' (.slice va WN vc) L → Calls Tryd.prog 17 #[.slice va WN vc] w' fun e w'' => e = .returned (.tuple #[.agg #[.int .i64 c, .int .i64 s, .int .i64 k, .slice none 0 0], .int .i64 0]) ∧ Below w'.heap.size w' w'')
    (EB : Int) (hEB : ¬ EB = 0) (hUB : ∀ w', Below w.heap.size w w' → Calls Tryd.prog 16 #[.slice ka kn kc, .bool up, .slice bx xn bxc] w' fun e w'' => e = .returned (.tuple #[.agg #[.int .i64 0, .int .i64 0, .int .i64 0, .slice none 0 0], .int .i64 EB]) ∧ Below w'.heap.size w' w'') :
    Calls Tryd.prog 3 #[.slice ka kn kc, .bool up, .agg #[.int .i64 c, .int .i64 s, .int .i64 k, .slice ba bn bc], .slice bx xn bxc] w fun e w' => e = .returned (.bool true) ∧ Below w.heap.size w w' := by
  have HT := hide hT
  have H8 := hide h8
  have HB8 := hide hb8
  have HBD := hide (p := ∀ w', Below w.heap.size w w' → Byt w' (.slice ba bn bc) body) (fun w' hw => hbd.call hw)
  have HBB := hide (p := ∀ w', Below w.heap.size w w' → Byt w' (.slice bx xn bxc) lb) (fun w' hw => hbb.call hw)
  have HSF := hide (fun (c s k : Int) (v x : Value) (l : List Nat) (w : World) => same_frame c s k v x l w)
  unfold frV at HSF
  have HWA := hide hWA
  have HUB := hide hUB
  have h1 : ¬ (16384 : Int) < (kn : Int) := by omega
  have h2 : ¬ (16384 : Int) < (bn : Int) := by omega
  have h3 : ¬ (16384 : Int) < (xn : Int) := by omega
  have HN := hide hlen
  have b1 : Below w.heap.size w (w.alloc (.cells #[.int .i64 c, .int .i64 s, .int .i64 k, .slice ba bn bc] 24)) := (Below.refl _ _).alloc (Nat.le_refl _) _
  have R1 := RowAt.new w 24 [.int .i64 c, .int .i64 s, .int .i64 k, .slice ba bn bc]
  have HB1 := hide b1
  have HR1 := hide R1
  have HUA := hide hUA
  have HPA := hide hPA
  clear hUA hPA
  have hEB1 : (EB != 0) = true := by rw [bne_iff_ne]; exact hEB
  clear hT h8 hb8 hbd hbb hWA hUB hkn hbn hxn hlen b1
  have a3 := R1.cell 3
  clear R1
  go_enter Tryd.func3, Tryd.ntmps3
  go_wp2_with fail
  all_goals (
    generalize w.alloc (.cells #[.int .i64 c, .int .i64 s, .int .i64 k, .slice ba bn bc] 24) = w1 at *
    refine Calls.mono (unhide HWA _ (unhide HB1)) ?_
    rintro e w2 ⟨b2, wa, wc, rfl, y2⟩
    have HB2 := hide ((unhide HB1).trans (b2.mono (unhide HB1).size))
    have HR2 := hide ((unhide HR1).below b2 (unhide HR1).lt)
    have HU2 := hide (unhide HUA w2 wa wc (unhide HB2) y2)
    have HY2 := hide y2
    clear b2 y2 HWA HUA HB1 HR1
    go_wp2_with fail
    refine Calls.mono (unhide HU2) ?_
    rintro e w3 ⟨b3, xa, xc, rfl, y3⟩
    rw [unhide HN] at y3 ⊢
    have B3 := (unhide HB2).trans (b3.mono (unhide HB2).size)
    have R3 := (unhide HR2).below b3 (unhide HR2).lt
    have Y3 := (unhide HY2).call b3
    have nb : Below w3.heap.size w3 (w3.alloc (.cells #[.int .i64 c, .int .i64 s, .int .i64 k, .slice xa bn xc] 24)) := (Below.refl _ _).alloc (Nat.le_refl _) _
    have HB4 := hide (B3.trans (nb.mono B3.size))
    have RG4 := hide (RowAt.new w3 24 [.int .i64 c, .int .i64 s, .int .i64 k, .slice xa bn xc])
    have HR4 := hide (R3.below nb R3.lt)
    obtain ⟨gg, hgg⟩ : ∃ x, w3.heap.size = x := ⟨_, rfl⟩
    rw [hgg] at RG4
    have HG4 := hide (y3.call nb)
    have HP4 := hide (unhide HPA _ wa wc (unhide HB4) (Y3.call nb))
    clear b3 B3 R3 Y3 y3 nb HB2 HR2 HY2 HU2
    go_wp2_with fail
    try rw [hgg]
    generalize w3.alloc (.cells #[.int .i64 c, .int .i64 s, .int .i64 k, .slice xa bn xc] 24) = w4 at *
    clear hgg
    refine Calls.mono (unhide HP4) ?_
    rintro e w5 ⟨rfl, b5⟩
    have B5 := (unhide HB4).trans (b5.mono (unhide HB4).size)
    have R5 := (unhide HR4).below b5 (unhide HR4).lt
    have G5 := (unhide RG4).below b5 (unhide RG4).lt
    have nb : Below w5.heap.size w5 (w5.alloc (.cells #[.int .i64 c, .int .i64 s, .int .i64 k, .slice none 0 0] 24)) := (Below.refl _ _).alloc (Nat.le_refl _) _
    have HB6 := hide (B5.trans (nb.mono B5.size))
    have R6 := R5.below nb R5.lt
    have G6 := G5.below nb G5.lt
    have P6 := RowAt.new w5 24 [.int .i64 c, .int .i64 s, .int .i64 k, .slice none 0 0]
    have HY6 := hide (((unhide HG4).call b5).call nb)
    obtain ⟨gp, hgp⟩ : ∃ x, w5.heap.size = x := ⟨_, rfl⟩
    rw [hgp] at P6
    have HR6 := hide R6
    have HP6 := hide P6
    have a0 := R6.cell 0
    have a1 := R6.cell 1
    have a2 := R6.cell 2
    have a3 := R6.cell 3
    have c0 := G6.cell 0
    have c1 := G6.cell 1
    have c2 := G6.cell 2
    have c3 := G6.cell 3
    clear b5 B5 R5 G5 nb R6 G6 P6 HB4 HR4 RG4 HG4 HP4
    go_wp2_with fail
    try rw [hgp]
    generalize w5.alloc (.cells #[.int .i64 c, .int .i64 s, .int .i64 k, .slice none 0 0] 24) = w6 at *
    clear hgp a0 a1 a2 a3 c0 c1 c2 c3
    refine Calls.mono (unhide HSF c s k (.slice ba bn bc) (.slice xa bn xc) body _ (unhide HBD _ (unhide HB6)) (unhide HY6) (unhide H8)) ?_
    rintro e w7 ⟨rfl, b7⟩
    have HB7 := hide ((unhide HB6).trans (b7.mono (unhide HB6).size))
    have R7 := (unhide HR6).below b7 (unhide HR6).lt
    have P7 := (unhide HP6).below b7 (unhide HP6).lt
    have a0 := R7.cell 0
    have a1 := R7.cell 1
    have a2 := R7.cell 2
    have c0 := P7.cell 0
    have c1 := P7.cell 1
    have c2 := P7.cell 2
    clear b7 R7 P7 HB6 HY6 HR6 HP6
    go_wp2_with fail
    clear a0 a1 a2 c0 c1 c2
    generalize w7 = wm at *
    refine Calls.mono (unhide HUB _ (unhide HB7)) ?_
    rintro e w8 ⟨rfl, b8⟩
    have B8 := (unhide HB7).trans (b8.mono (unhide HB7).size)
    have nb : Below w8.heap.size w8 (w8.alloc (.cells #[.int .i64 0, .int .i64 0, .int .i64 0, .slice none 0 0] 24)) := (Below.refl _ _).alloc (Nat.le_refl _) _
    have HB9 := hide (B8.trans (nb.mono B8.size))
    have RG := RowAt.new w8 24 [.int .i64 0, .int .i64 0, .int .i64 0, .slice none 0 0]
    obtain ⟨gx, hgx⟩ : ∃ x, w8.heap.size = x := ⟨_, rfl⟩
    rw [hgx] at RG
    have a0 := RG.cell 0
    have a1 := RG.cell 1
    have a2 := RG.cell 2
    have a3 := RG.cell 3
    clear b8 B8 nb RG HB7 HUB
    go_wp2_with fail
    try rw [hgx]
    generalize w8.alloc (.cells #[.int .i64 0, .int .i64 0, .int .i64 0, .slice none 0 0] 24) = w9 at *
    clear hgx a0 a1 a2 a3
    refine Calls.mono (unhide HSF 0 0 0 (.slice none 0 0) (.slice none 0 0) [] _ (.inl ⟨rfl, rfl⟩) (.inl ⟨rfl, rfl⟩) (fun y hy => by cases hy)) ?_
    rintro e w10 ⟨rfl, b10⟩
    have HB11 := hide ((unhide HB9).trans (b10.mono (unhide HB9).size))
    clear b10 HB9
    have HAW := hide (fawake_any _ ((unhide HT).below (unhide HB11)))
    go_wp2_with fail
    refine Calls.mono (unhide HAW) ?_
    rintro e w12 ⟨rfl, b12⟩
    have HB12 := hide ((unhide HB11).trans (b12.mono (unhide HB11).size))
    clear b12 HAW
    go_wp2_with fail
    go_ret
    exact ⟨rfl, unhide HB12⟩)

set_option maxRecDepth 100000 in
set_option maxHeartbeats 8000000 in
theorem core_ok_ok (ka : Option Addr) (kn kc : Nat) (up : Bool) (c : Int) (s : Int) (k : Int) (ba : Option Addr) (bn bc : Nat) (bx : Option Addr) (xn bxc : Nat) (body lb : List Nat) (w : World) (hT : FLay w) (hkn : ¬ 16384 < kn) (hbn : ¬ 16384 < bn) (hxn : ¬ 16384 < xn) (h8 : U8 body) (hb8 : U8 lb) (hlen : body.length = bn) (hbd : Byt w (.slice ba bn bc) body) (hbb : Byt w (.slice bx xn bxc) lb)
    (L : List Nat) (WN : Nat) (hWA : ∀ w', Below w.heap.size w w' → Calls Tryd.prog 15 #[.slice ka kn kc, .bool up, .agg #[.int .i64 c, .int .i64 s, .int .i64 k, .slice ba bn bc]] w' fun e w'' => Wr L WN w' e w'') (hUA : ∀ w' va vc, Below w.heap.size w w' → Byt w' (.slice va WN vc) L → Calls Tryd.prog 16 #[.slice ka kn kc, .bool up, .slice va WN vc] w' fun e w'' => Shows c s k 0 body w' e w'') (hPA : ∀ w' va vc, Below w.heap.size w w' → Byt w' (.slice va WN vc) L → Calls Tryd.prog 17 #[.slice va WN vc] w' fun e w'' => e = .returned (.tuple #[.agg #[.int .i64 c, .int .i64 s, .int .i64 k, .slice none 0 0], .int .i64 0]) ∧ Below w'.heap.size w' w'')
    (c2 s2 k2 : Int) (body2 : List Nat) (hUB : ∀ w', Below w.heap.size w w' → Calls Tryd.prog 16 #[.slice ka kn kc, .bool up, .slice bx xn bxc] w' fun e w'' => Shows c2 s2 k2 0 body2 w' e w'') (hWB : ∀ w' va vc, Below w.heap.size w w' → Byt w' (.slice va body2.length vc) body2 → Calls Tryd.prog 15 #[.slice ka kn kc, .bool up, .agg #[.int .i64 c2, .int .i64 s2, .int .i64 k2, .slice va body2.length vc]] w' fun e w'' => Wr lb xn w' e w'') :
    Calls Tryd.prog 3 #[.slice ka kn kc, .bool up, .agg #[.int .i64 c, .int .i64 s, .int .i64 k, .slice ba bn bc], .slice bx xn bxc] w fun e w' => e = .returned (.bool true) ∧ Below w.heap.size w w' := by
  have HT := hide hT
  have H8 := hide h8
  have HB8 := hide hb8
  have HBD := hide (p := ∀ w', Below w.heap.size w w' → Byt w' (.slice ba bn bc) body) (fun w' hw => hbd.call hw)
  have HBB := hide (p := ∀ w', Below w.heap.size w w' → Byt w' (.slice bx xn bxc) lb) (fun w' hw => hbb.call hw)
  have HSF := hide (fun (c s k : Int) (v x : Value) (l : List Nat) (w : World) => same_frame c s k v x l w)
  unfold frV at HSF
  have HWA := hide hWA
  have HUB := hide hUB
  have h1 : ¬ (16384 : Int) < (kn : Int) := by omega
  have h2 : ¬ (16384 : Int) < (bn : Int) := by omega
  have h3 : ¬ (16384 : Int) < (xn : Int) := by omega
  have HN := hide hlen
  have b1 : Below w.heap.size w (w.alloc (.cells #[.int .i64 c, .int .i64 s, .int .i64 k, .slice ba bn bc] 24)) := (Below.refl _ _).alloc (Nat.le_refl _) _
  have R1 := RowAt.new w 24 [.int .i64 c, .int .i64 s, .int .i64 k, .slice ba bn bc]
  have HB1 := hide b1
  have HR1 := hide R1
  have HUA := hide hUA
  have HPA := hide hPA
  clear hUA hPA
  have HWB := hide hWB
  obtain ⟨n2, hn2⟩ : ∃ n, body2.length = n := ⟨_, rfl⟩
  rw [hn2] at HWB
  have HN2 := hide hn2
  clear hn2 hWB
  clear hT h8 hb8 hbd hbb hWA hUB hkn hbn hxn hlen b1
  have a3 := R1.cell 3
  clear R1
  go_enter Tryd.func3, Tryd.ntmps3
  go_wp2_with fail
  all_goals (
    generalize w.alloc (.cells #[.int .i64 c, .int .i64 s, .int .i64 k, .slice ba bn bc] 24) = w1 at *
    refine Calls.mono (unhide HWA _ (unhide HB1)) ?_
    rintro e w2 ⟨b2, wa, wc, rfl, y2⟩
    have HB2 := hide ((unhide HB1).trans (b2.mono (unhide HB1).size))
    have HR2 := hide ((unhide HR1).below b2 (unhide HR1).lt)
    have HU2 := hide (unhide HUA w2 wa wc (unhide HB2) y2)
    have HY2 := hide y2
    clear b2 y2 HWA HUA HB1 HR1
    go_wp2_with fail
    refine Calls.mono (unhide HU2) ?_
    rintro e w3 ⟨b3, xa, xc, rfl, y3⟩
    rw [unhide HN] at y3 ⊢
    have B3 := (unhide HB2).trans (b3.mono (unhide HB2).size)
    have R3 := (unhide HR2).below b3 (unhide HR2).lt
    have Y3 := (unhide HY2).call b3
    have nb : Below w3.heap.size w3 (w3.alloc (.cells #[.int .i64 c, .int .i64 s, .int .i64 k, .slice xa bn xc] 24)) := (Below.refl _ _).alloc (Nat.le_refl _) _
    have HB4 := hide (B3.trans (nb.mono B3.size))
    have RG4 := hide (RowAt.new w3 24 [.int .i64 c, .int .i64 s, .int .i64 k, .slice xa bn xc])
    have HR4 := hide (R3.below nb R3.lt)
    obtain ⟨gg, hgg⟩ : ∃ x, w3.heap.size = x := ⟨_, rfl⟩
    rw [hgg] at RG4
    have HG4 := hide (y3.call nb)
    have HP4 := hide (unhide HPA _ wa wc (unhide HB4) (Y3.call nb))
    clear b3 B3 R3 Y3 y3 nb HB2 HR2 HY2 HU2
    go_wp2_with fail
    try rw [hgg]
    generalize w3.alloc (.cells #[.int .i64 c, .int .i64 s, .int .i64 k, .slice xa bn xc] 24) = w4 at *
    clear hgg
    refine Calls.mono (unhide HP4) ?_
    rintro e w5 ⟨rfl, b5⟩
    have B5 := (unhide HB4).trans (b5.mono (unhide HB4).size)
    have R5 := (unhide HR4).below b5 (unhide HR4).lt
    have G5 := (unhide RG4).below b5 (unhide RG4).lt
    have nb : Below w5.heap.size w5 (w5.alloc (.cells #[.int .i64 c, .int .i64 s, .int .i64 k, .slice none 0 0] 24)) := (Below.refl _ _).alloc (Nat.le_refl _) _
    have HB6 := hide (B5.trans (nb.mono B5.size))
    have R6 := R5.below nb R5.lt
    have G6 := G5.below nb G5.lt
    have P6 := RowAt.new w5 24 [.int .i64 c, .int .i64 s, .int .i64 k, .slice none 0 0]
    have HY6 := hide (((unhide HG4).call b5).call nb)
    obtain ⟨gp, hgp⟩ : ∃ x, w5.heap.size = x := ⟨_, rfl⟩
    rw [hgp] at P6
    have HR6 := hide R6
    have HP6 := hide P6
    have a0 := R6.cell 0
    have a1 := R6.cell 1
    have a2 := R6.cell 2
    have a3 := R6.cell 3
    have c0 := G6.cell 0
    have c1 := G6.cell 1
    have c2 := G6.cell 2
    have c3 := G6.cell 3
    clear b5 B5 R5 G5 nb R6 G6 P6 HB4 HR4 RG4 HG4 HP4
    go_wp2_with fail
    try rw [hgp]
    generalize w5.alloc (.cells #[.int .i64 c, .int .i64 s, .int .i64 k, .slice none 0 0] 24) = w6 at *
    clear hgp a0 a1 a2 a3 c0 c1 c2 c3
    refine Calls.mono (unhide HSF c s k (.slice ba bn bc) (.slice xa bn xc) body _ (unhide HBD _ (unhide HB6)) (unhide HY6) (unhide H8)) ?_
    rintro e w7 ⟨rfl, b7⟩
    have HB7 := hide ((unhide HB6).trans (b7.mono (unhide HB6).size))
    have R7 := (unhide HR6).below b7 (unhide HR6).lt
    have P7 := (unhide HP6).below b7 (unhide HP6).lt
    have a0 := R7.cell 0
    have a1 := R7.cell 1
    have a2 := R7.cell 2
    have c0 := P7.cell 0
    have c1 := P7.cell 1
    have c2 := P7.cell 2
    clear b7 R7 P7 HB6 HY6 HR6 HP6
    go_wp2_with fail
    clear a0 a1 a2 c0 c1 c2
    generalize w7 = wm at *
    refine Calls.mono (unhide HUB _ (unhide HB7)) ?_
    rintro e w8 ⟨b8, ya, yc, rfl, y8⟩
    rw [unhide HN2] at y8 ⊢
    have B8 := (unhide HB7).trans (b8.mono (unhide HB7).size)
    have nb : Below w8.heap.size w8 (w8.alloc (.cells #[.int .i64 c2, .int .i64 s2, .int .i64 k2, .slice ya n2 yc] 24)) := (Below.refl _ _).alloc (Nat.le_refl _) _
    have HB9 := hide (B8.trans (nb.mono B8.size))
    have RG := RowAt.new w8 24 [.int .i64 c2, .int .i64 s2, .int .i64 k2, .slice ya n2 yc]
    obtain ⟨gx, hgx⟩ : ∃ x, w8.heap.size = x := ⟨_, rfl⟩
    rw [hgx] at RG
    have HW9 := hide (unhide HWB _ ya yc (unhide HB9) (y8.call nb))
    have a0 := RG.cell 0
    have a1 := RG.cell 1
    have a2 := RG.cell 2
    have a3 := RG.cell 3
    clear b8 B8 nb y8 RG HB7 HUB HWB
    go_wp2_with fail
    try rw [hgx]
    generalize w8.alloc (.cells #[.int .i64 c2, .int .i64 s2, .int .i64 k2, .slice ya n2 yc] 24) = w9 at *
    clear hgx a0 a1 a2 a3
    refine Calls.mono (unhide HW9) ?_
    rintro e w10 ⟨b10, wa2, wc2, rfl, y10⟩
    have HB10 := hide ((unhide HB9).trans (b10.mono (unhide HB9).size))
    have HE := hide (equal_same (.slice wa2 xn wc2) (.slice bx xn bxc) lb w10 y10 (unhide HBB _ (unhide HB10)) (unhide HB8))
    clear b10 y10 HB9 HW9
    go_wp2_with fail
    refine Calls.mono (unhide HE) ?_
    rintro e w11 ⟨rfl, rfl⟩
    have HB11 := HB10
    have HAW := hide (fawake_any _ ((unhide HT).below (unhide HB11)))
    go_wp2_with fail
    refine Calls.mono (unhide HAW) ?_
    rintro e w12 ⟨rfl, b12⟩
    have HB12 := hide ((unhide HB11).trans (b12.mono (unhide HB11).size))
    clear b12 HAW
    go_wp2_with fail
    go_ret
    exact ⟨rfl, unhide HB12⟩)

theorem wr_of {key : List Nat} {kn : Nat} {up : Bool} {c : Int} {s : Nat} {k : Int} {body : List Nat} {w w' : World} {e : Ending} (h64 : kn = 64) (h : WrR key kn up c s k body w e w') : Wr (wrapL key up c s k body) (wrapL key up c s k body).length w e w' := by
  obtain ⟨v', rfl, ho⟩ := h.2.1 h64
  have hy := Byt.of_own ho
  obtain ⟨va, vc, rfl⟩ := byt_shape hy
  exact ⟨h.1, va, vc, rfl, hy⟩
theorem shows_byt {c s k E : Int} {l : List Nat} {w w' : World} {e : Ending} (hb : Below w.heap.size w w') (h : ∃ bv, e = .returned (.tuple #[frV c s k bv, .int .i64 E]) ∧ Byt w' bv l) : Shows c s k E l w e w' := by
  obtain ⟨bv, rfl, hy⟩ := h
  obtain ⟨va, vc, rfl⟩ := byt_shape hy
  exact ⟨hb, va, vc, rfl, hy⟩
theorem some_of {w : World} {a : Option Addr} {n c : Nat} {l : List Nat} (h : Byt w (.slice a n c) l) (hn : 0 < n) : ∃ b, a = some b := by
  rcases h with ⟨e, rfl⟩ | ⟨a', c', e, _⟩
  · injection e with e1 e2 e3; omega
  · injection e with e1 e2 e3; exact ⟨a', e1⟩

set_option maxRecDepth 100000 in
set_option maxHeartbeats 8000000 in
theorem long (ka : Option Addr) (kn kc : Nat) (up : Bool) (c s k : Int) (ba : Option Addr) (bn bc : Nat) (bx : Option Addr) (xn bxc : Nat) (w : World) (hT : FLay w) (h : 16384 < kn ∨ 16384 < bn ∨ 16384 < xn) :
    Calls Tryd.prog 3 #[.slice ka kn kc, .bool up, .agg #[.int .i64 c, .int .i64 s, .int .i64 k, .slice ba bn bc], .slice bx xn bxc] w fun e w' => e = .returned (.bool true) ∧ Below w.heap.size w w' := by
  have b1 : Below w.heap.size w (w.alloc (.cells #[.int .i64 c, .int .i64 s, .int .i64 k, .slice ba bn bc] 24)) := (Below.refl _ _).alloc (Nat.le_refl _) _
  have R1 := RowAt.new w 24 [.int .i64 c, .int .i64 s, .int .i64 k, .slice ba bn bc]
  have HAW := hide (fawake_any _ (hT.below b1))
  have HB1 := hide b1
  have a3 := R1.cell 3
  clear R1 b1
  by_cases hs : 16384 < kn
  · have h1 : (16384 : Int) < (kn : Int) := by omega
    clear hT h hs
    go_enter Tryd.func3, Tryd.ntmps3
    go_wp2_with fail
    all_goals (
      refine Calls.mono (unhide HAW) ?_
      rintro e w3 ⟨rfl, b3⟩
      have HB := hide ((unhide HB1).trans (b3.mono (unhide HB1).size))
      clear b3
      go_wp2_with fail
      go_ret
      exact ⟨rfl, unhide HB⟩)
  · by_cases hs2 : 16384 < bn
    · have h1 : ¬ (16384 : Int) < (kn : Int) := by omega
      have h2 : (16384 : Int) < (bn : Int) := by omega
      clear hT h hs hs2
      go_enter Tryd.func3, Tryd.ntmps3
      go_wp2_with fail
      all_goals (
        refine Calls.mono (unhide HAW) ?_
        rintro e w3 ⟨rfl, b3⟩
        have HB := hide ((unhide HB1).trans (b3.mono (unhide HB1).size))
        clear b3
        go_wp2_with fail
        go_ret
        exact ⟨rfl, unhide HB⟩)
    · have h1 : ¬ (16384 : Int) < (kn : Int) := by omega
      have h2 : ¬ (16384 : Int) < (bn : Int) := by omega
      have h3 : (16384 : Int) < (xn : Int) := by omega
      clear hT h hs hs2
      go_enter Tryd.func3, Tryd.ntmps3
      go_wp2_with fail
      all_goals (
        refine Calls.mono (unhide HAW) ?_
        rintro e w3 ⟨rfl, b3⟩
        have HB := hide ((unhide HB1).trans (b3.mono (unhide HB1).size))
        clear b3
        go_wp2_with fail
        go_ret
        exact ⟨rfl, unhide HB⟩)

theorem walk (ka : Option Addr) (kn kc : Nat) (up : Bool) (c s k : Int) (ba : Option Addr) (bn bc : Nat) (bx : Option Addr) (xn bxc : Nat) (key body lb : List Nat) (w : World) (hT : FLay w) (hk : Byt w (.slice ka kn kc) key) (hb : Byt w (.slice ba bn bc) body) (hbb : Byt w (.slice bx xn bxc) lb) (hk8 : U8 key) (hb8 : U8 body) (hx8 : U8 lb) (hkn : key.length = kn) (hbn : body.length = bn) (hxn : lb.length = xn) :
    Calls Tryd.prog 3 #[.slice ka kn kc, .bool up, .agg #[.int .i64 c, .int .i64 s, .int .i64 k, .slice ba bn bc], .slice bx xn bxc] w fun e w' => e = .returned (.bool true) ∧ Below w.heap.size w w' := by
  by_cases hs : 16384 < kn ∨ 16384 < bn ∨ 16384 < xn
  · exact long ka kn kc up c s k ba bn bc bx xn bxc w hT hs
  have n1 : ¬ 16384 < kn := fun h => hs (.inl h)
  have n2 : ¬ 16384 < bn := fun h => hs (.inr (.inl h))
  have n3 : ¬ 16384 < xn := fun h => hs (.inr (.inr h))
  -- the first half
  have HA : (∃ EA : Int, ¬ EA = 0 ∧ ∀ w', Below w.heap.size w w' → Calls Tryd.prog 15 #[.slice ka kn kc, .bool up, .agg #[.int .i64 c, .int .i64 s, .int .i64 k, .slice ba bn bc]] w' fun e w'' => e = .returned (.tuple #[.slice none 0 0, .int .i64 EA]) ∧ Below w'.heap.size w' w'') ∨
      (∃ (L : List Nat) (WN : Nat), (∀ w', Below w.heap.size w w' → Calls Tryd.prog 15 #[.slice ka kn kc, .bool up, .agg #[.int .i64 c, .int .i64 s, .int .i64 k, .slice ba bn bc]] w' fun e w'' => Wr L WN w' e w'') ∧ (∀ w' va vc, Below w.heap.size w w' → Byt w' (.slice va WN vc) L → Calls Tryd.prog 16 #[.slice ka kn kc, .bool up, .slice va WN vc] w' fun e w'' => Shows c s k 0 body w' e w'') ∧ (∀ w' va vc, Below w.heap.size w w' → Byt w' (.slice va WN vc) L → Calls Tryd.prog 17 #[.slice va WN vc] w' fun e w'' => e = .returned (.tuple #[.agg #[.int .i64 c, .int .i64 s, .int .i64 k, .slice none 0 0], .int .i64 0]) ∧ Below w'.heap.size w' w'')) := by
    by_cases hE : fitsE c s k bn = 0
    · obtain ⟨f1, f2, f3, f4, f5, f6, f7, f8⟩ := fits0 hE
      obtain ⟨cN, rfl⟩ := Int.eq_ofNat_of_zero_le (show 0 ≤ c by omega)
      obtain ⟨sN, rfl⟩ := Int.eq_ofNat_of_zero_le f3
      obtain ⟨kN, rfl⟩ := Int.eq_ofNat_of_zero_le f5
      by_cases h64 : kn = 64
      · right
        have hp := parts_of key up cN sN kN body (by omega) (by omega) (by omega)
        have hl := wrapL_len key up cN sN kN body
        have h8 := trip_8 key up cN sN kN hb8
        refine ⟨wrapL key up cN sN kN body, (wrapL key up cN sN kN body).length, ?_, ?_, ?_⟩
        · intro w' hw
          exact (wrap_any ka kn kc up cN sN kN ba bn bc key body w' (hT.below hw).1 (hk.call hw) (hb.call hw) hk8 hb8 hkn hbn hE).mono fun e w'' h => wr_of h64 h
        · intro w' va vc hw hy
          obtain ⟨a, rfl⟩ := some_of hy (by omega)
          refine (unwrap_any ka kn kc up a _ vc key _ cN sN kN w' (hT.below hw).1 (hk.call hw) hk8 hkn hy h8 rfl (by omega) (by omega) hp.n1 hp.n2 hp.n3 (by omega) (by omega) (by omega) (by omega) (by omega)).mono fun e w'' h => ?_
          have h4 := h.2.2.2 h64 (by rw [hp.hd, hp.hid, hp.tag])
          rw [hp.hid, tk_twice] at h4
          exact shows_byt h.1 h4
        · intro w' va vc hw hy
          obtain ⟨a, rfl⟩ := some_of hy (by omega)
          exact peek_ok a _ vc _ cN sN kN w' hy h8 rfl (by omega) (by omega) hp.n1 hp.n2 hp.n3 (by omega) (by omega) (by omega) (by omega) (by omega)
      · left
        refine ⟨1, by decide, fun w' hw => ?_⟩
        exact (wrap_any ka kn kc up cN sN kN ba bn bc key body w' (hT.below hw).1 (hk.call hw) (hb.call hw) hk8 hb8 hkn hbn hE).mono fun e w'' h => ⟨h.2.2 h64, h.1⟩
    · left
      exact ⟨_, hE, fun w' hw => wrap_bad (.slice ka kn kc) up c s k ba bn bc w' hE⟩
  have HB : (∃ EB : Int, ¬ EB = 0 ∧ ∀ w', Below w.heap.size w w' → Calls Tryd.prog 16 #[.slice ka kn kc, .bool up, .slice bx xn bxc] w' fun e w'' => e = .returned (.tuple #[.agg #[.int .i64 0, .int .i64 0, .int .i64 0, .slice none 0 0], .int .i64 EB]) ∧ Below w'.heap.size w' w'') ∨
      (∃ (c2 s2 k2 : Int) (body2 : List Nat), (∀ w', Below w.heap.size w w' → Calls Tryd.prog 16 #[.slice ka kn kc, .bool up, .slice bx xn bxc] w' fun e w'' => Shows c2 s2 k2 0 body2 w' e w'') ∧ (∀ w' va vc, Below w.heap.size w w' → Byt w' (.slice va body2.length vc) body2 → Calls Tryd.prog 15 #[.slice ka kn kc, .bool up, .agg #[.int .i64 c2, .int .i64 s2, .int .i64 k2, .slice va body2.length vc]] w' fun e w'' => Wr lb xn w' e w'')) := by
    by_cases hok : PkOk lb xn
    · have h40 : 40 ≤ xn := hok.2.2.2.1
      have hn2 : xn ≤ 16360 := hok.2.2.2.2.1
      have h24 : (lb.take 24).length = 24 := by rw [List.length_take]; omega
      have hok' := hok
      unfold PkOk pkS at hok'
      unfold Oct.Nx at hok'
      rw [take_piece lb 0 (by omega), take_piece lb 8 (by omega), take_piece lb 16 (by omega), List.drop_zero] at hok'
      obtain ⟨cN, hc⟩ : ∃ x, Oct.numOf (lb.take 8) = x := ⟨_, rfl⟩
      obtain ⟨sN, hss⟩ : ∃ x, Oct.numOf ((lb.drop 8).take 8) = x := ⟨_, rfl⟩
      obtain ⟨kN, hkk⟩ : ∃ x, Oct.numOf ((lb.drop 16).take 8) = x := ⟨_, rfl⟩
      rw [hc, hss, hkk] at hok'
      obtain ⟨⟨_, _, c1, c2⟩, ⟨_, _, _, s2⟩, ⟨_, _, _, k2⟩, _, _, hsb⟩ := hok'
      have c1' : 1 ≤ cN := by omega
      have c2' : cN ≤ 1099511627776 := by omega
      have s2' : sN ≤ 1099511627776 := by omega
      have k2' : kN ≤ 1099511627776 := by omega
      obtain ⟨a, rfl⟩ := some_of hbb (by omega)
      have hu := fun w' (hw : Below w.heap.size w w') => unwrap_any ka kn kc up a xn bxc key lb cN sN kN w' (hT.below hw).1 (hk.call hw) hk8 hkn (hbb.call hw) hx8 hxn h40 hn2 hc hss hkk c1' c2' s2' k2' hsb
      by_cases h64 : kn = 64
      · by_cases hq : (lb.drop 24).drop (xn - 40) = tagL key (onceU sN up) (lb.take 24) ((lb.drop 24).take (xn - 40))
        · right
          have hlen2 : (tkL key (onceU sN up) ((lb.drop 24).take (xn - 40))).length = xn - 40 := by rw [tkL_len, List.length_take, List.length_drop]; omega
          have h82 : U8 (tkL key (onceU sN up) ((lb.drop 24).take (xn - 40))) := tkL_8 _ _ (fun y hy => hx8 y (List.mem_of_mem_drop (List.mem_of_mem_take hy)))
          have hag := wrap_again key up lb cN sN kN hx8 (by omega) hc hss hkk (by rw [hxn]; exact hq)
          rw [hxn] at hag
          refine ⟨cN, sN, kN, _, fun w' hw => (hu w' hw).mono fun e w'' h => shows_byt h.1 (h.2.2.2 h64 hq), fun w' va vc hw hy => ?_⟩
          have hE : fitsE (cN : Int) (sN : Int) (kN : Int) (tkL key (onceU sN up) ((lb.drop 24).take (xn - 40))).length = 0 := by
            rw [hlen2]
            unfold fitsE
            rw [if_neg (by omega), if_neg (by omega)]
          refine (wrap_any ka kn kc up cN sN kN va _ vc key _ w' (hT.below hw).1 (hk.call hw) hy hk8 h82 hkn rfl hE).mono fun e w'' h => ?_
          have := wr_of h64 h
          rw [hag, hxn] at this
          exact this
        · left
          exact ⟨121, by decide, fun w' hw => (hu w' hw).mono fun e w'' h => ⟨h.2.2.1 h64 hq, h.1⟩⟩
      · left
        exact ⟨1, by decide, fun w' hw => (hu w' hw).mono fun e w'' h => ⟨h.2.1 h64, h.1⟩⟩
    · left
      exact ⟨120, by decide, fun w' hw => unwrap_bad (.slice ka kn kc) up bx xn bxc lb w' (hbb.call hw) hx8 hxn (by omega) hok⟩
  rcases HA with ⟨EA, hEA, hWA⟩ | ⟨L, WN, hWA, hUA, hPA⟩
  · rcases HB with ⟨EB, hEB, hUB⟩ | ⟨c2, s2, k2, body2, hUB, hWB⟩
    · exact core_bad_bad ka kn kc up c s k ba bn bc bx xn bxc body lb w hT n1 n2 n3 hb8 hx8 hbn hb hbb EA hEA hWA EB hEB hUB
    · exact core_bad_ok ka kn kc up c s k ba bn bc bx xn bxc body lb w hT n1 n2 n3 hb8 hx8 hbn hb hbb EA hEA hWA c2 s2 k2 body2 hUB hWB
  · rcases HB with ⟨EB, hEB, hUB⟩ | ⟨c2, s2, k2, body2, hUB, hWB⟩
    · exact core_ok_bad ka kn kc up c s k ba bn bc bx xn bxc body lb w hT n1 n2 n3 hb8 hx8 hbn hb hbb L WN hWA hUA hPA EB hEB hUB
    · exact core_ok_ok ka kn kc up c s k ba bn bc bx xn bxc body lb w hT n1 n2 n3 hb8 hx8 hbn hb hbb L WN hWA hUA hPA c2 s2 k2 body2 hUB hWB

set_option maxRecDepth 100000 in
theorem contract (H : Type) (enc : TypeId × Value → H) (W : World) (base : Nat) (args : Array Value) (ds gs : List (DataW H)) (before : List MemPlace)
    (hval : ∀ (j : Nat) t v, Tryd.f3.params[j]? = some t → args[j]? = some v → Value.okWide Tryd.prog W .any base t v)
    (hW : DataW.Whole enc Tryd.prog Tryd.f3.params.toList Rows.frameTripSpec.vars false W args.toList ds gs before) (hL : laidMetH Tryd.prog Rows.frameTripRow.laid W) :
    Calls Tryd.prog 3 args W fun e W' => ∃ v, e = .returned v ∧ Rows.frameTripSpec.post enc Tryd.prog Tryd.f3 false true false false W args v W' := by
  have hT : FLay W := flay_of hL
  have hW' := hW
  obtain ⟨p, q, hA0, hV, rfl, hfz, hnd⟩ := hW
  have hA : DataW.TrodAll enc Tryd.prog W 0 (fun _ => true) true Tryd.f3.params.toList args.toList ds p := hA0
  rw [Tryd.params3] at hA hval
  obtain ⟨v0, vs0, d0, ds0, p0, q0, hargs, rfl, rfl, h0, r0⟩ := trodAll_cons hA
  obtain ⟨v1, vs1, d1, ds1, p1, q1, rfl, rfl, rfl, h1, r1⟩ := trodAll_cons r0
  obtain ⟨v2, vs2, d2, ds2, p2, q2, rfl, rfl, rfl, h2, r2⟩ := trodAll_cons r1
  obtain ⟨v3, vs3, d3, ds3, p3, q3, rfl, rfl, rfl, h3, r3⟩ := trodAll_cons r2
  obtain ⟨rfl, rfl, rfl⟩ := trodAll_nil r3
  obtain rfl : args = #[v0, v1, v2, v3] := by cases args; simp_all
  obtain ⟨rfl, rfl⟩ := trodVars_none hV
  have lt0 : ∀ x ∈ p0, x.block < W.heap.size := by obtain ⟨m, hm⟩ := h0; exact DataW.trod_lt m _ _ _ hm
  have lt1 : ∀ x ∈ p1, x.block < W.heap.size := by obtain ⟨m, hm⟩ := h1; exact DataW.trod_lt m _ _ _ hm
  have lt2 : ∀ x ∈ p2, x.block < W.heap.size := by obtain ⟨m, hm⟩ := h2; exact DataW.trod_lt m _ _ _ hm
  have lt3 : ∀ x ∈ p3, x.block < W.heap.size := by obtain ⟨m, hm⟩ := h3; exact DataW.trod_lt m _ _ _ hm
  obtain ⟨l0, hY0, h2560⟩ := open_bytes (hval 0 22 v0 rfl rfl) h0
  obtain ⟨ka, kc, rfl⟩ := byt_shape hY0
  obtain ⟨b1, rfl, _⟩ := open_bool Tryd.underlying4 (hval 1 4 v1 rfl rfl) h1
  obtain ⟨c, s, k, ba, bn, bc, body, rfl, hY2, h2562, hbn⟩ := open_frame (hval 2 24 v2 rfl rfl) h2
  obtain ⟨l3, hY3, h2563⟩ := open_bytes (hval 3 22 v3 rfl rfl) h3
  obtain ⟨bx, bxc, rfl⟩ := byt_shape hY3
  clear hA0
  refine (walk ka l0.length kc b1 c s k ba bn bc bx l3.length bxc l0 body l3 W hT hY0 hY2 hY3 h2560 h2562 h2563 rfl hbn rfl).mono fun e W' ⟨he, bel⟩ => ?_
  subst he
  exact ⟨_, rfl, _, _, _, [], _, [], hW', trodAll_mk1 (shut_bool Tryd.underlying4 _), (trodAll_cons_mk (Below.trod laidOut (by kernel_rfl) (of_decide_eq_true (by kernel_rfl)) h0 bel lt0) (trodAll_cons_mk (Below.trod laidOut (by kernel_rfl) (of_decide_eq_true (by kernel_rfl)) h1 bel lt1) (trodAll_cons_mk (Below.trod laidOut (by kernel_rfl) (of_decide_eq_true (by kernel_rfl)) h2 bel lt2) (trodAll_cons_mk (Below.trod laidOut (by kernel_rfl) (of_decide_eq_true (by kernel_rfl)) h3 bel lt3) trodAll_mk0)))), rfl, bel.frame _, fun h => by cases h⟩

set_option maxRecDepth 100000 in
theorem laid_here (os : Os) : laidMet Tryd.prog Rows.frameTripRow.laid ((flaidWorld os).forCall (fun _ _ => 0) ⟨#[], #[.slice none 0 0, .bool false, .agg #[.int .i64 0, .int .i64 0, .int .i64 0, .slice none 0 0], .slice none 0 0], []⟩).memory :=
  laidMet_of_run' 9 (by kernel_rfl) (by kernel_rfl)
theorem reads (os : Os) {H : Type} (enc : TypeId × Value → H) : ∃ places, DataW.whole enc Tryd.prog ((flaidWorld os).forCall (fun _ _ => 0) ⟨#[], #[.slice none 0 0, .bool false, .agg #[.int .i64 0, .int .i64 0, .int .i64 0, .slice none 0 0], .slice none 0 0], []⟩).memory Tryd.f3.params.toList Rows.frameTripSpec.vars false (#[.slice none 0 0, .bool false, .agg #[.int .i64 0, .int .i64 0, .int .i64 0, .slice none 0 0], .slice none 0 0] : Array Value).toList 9 = some ([.nil, .lit (.bool false), .agg [.lit (.int .i64 0), .lit (.int .i64 0), .lit (.int .i64 0), .nil], .nil], [], places) :=
  ⟨[], by kernel_rfl⟩

set_option maxRecDepth 100000 in
theorem lifted (os : Os) (started : os.Started) (H : Type) (enc : TypeId × Value → H) (F : Stop.Interp) :
    ReturnsInHanded {} Tryd.checked os 3 .any ((OpenSpec.ofChange Rows.frameTripSpec).preRow enc Tryd.prog Tryd.f3 Rows.frameTripRow.domain false Rows.frameTripRow.laid) (((OpenSpec.ofChange Rows.frameTripSpec).at F).post enc Tryd.prog Tryd.f3 false true false false) := by
  obtain ⟨places, hx⟩ := reads os enc
  refine returnsInHanded_of_row (C := Tryd.checked) (s := OpenSpec.ofChange Rows.frameTripSpec) own started (by kernel_rfl) Tryd.func3
    (witness_row_at (enc := enc) (C := Tryd.checked) false (flaidWorld os) #[.slice none 0 0, .bool false, .agg #[.int .i64 0, .int .i64 0, .int .i64 0, .slice none 0 0], .slice none 0 0] rfl (by kernel_rfl) (by kernel_rfl) (by kernel_rfl)
      (OpenSpec.preRow_of_cond 9 hx (by kernel_rfl) (fun k hk => by cases hk) (by kernel_rfl) (laid_here os))) ?_
  intro W base args ds gs before hval hW _ _ _ hL _ _
  exact contract H enc W base args ds gs before hval hW hL

theorem said : Rows.FrameTripSaid :=
  OpenClaim.holds_of_cond 3 Tryd.f3 rfl rfl rfl rfl rfl rfl rfl ⟨rfl, rfl, rfl, rfl, rfl⟩ rfl rfl rfl rfl rfl (by kernel_rfl) Tryd.func3 (by kernel_rfl)
    (of_decide_eq_true (by kernel_rfl)) (by unfold Func.isWrapper; first | (rw [if_pos (by decide +kernel)]; kernel_rfl) | (rw [if_neg (by decide +kernel)]; exact ⟨rfl, rfl⟩))
    (fun os started H enc _ F => by rw [OpenClaim.pre_eq_preRow]; exact lifted os started H enc F)

set_option maxRecDepth 100000 in
theorem plain (f : FuncId) (fn : Func) (hf : Tryd.pinned.checked.prog.funcNamed "sealskin/sealskinlaw13.FrameTrip" = some f) (hfn : Tryd.pinned.checked.prog.funcs[f]? = some fn) :
    false = Tryd.pinned.checked.prog.looks [] ∧ ∀ (j : Nat) t, fn.params[j]? = some t → Tryd.pinned.checked.prog.wantsStandIn t = false := by
  obtain rfl : f = 3 := Option.some.inj ((show Tryd.prog.funcNamed "sealskin/sealskinlaw13.FrameTrip" = some 3 by kernel_rfl).symm.trans hf) |>.symm
  obtain rfl : fn = Tryd.f3 := (Option.some.inj (Tryd.func3.symm.trans hfn)).symm
  refine ⟨by kernel_rfl, fun j t ht => ?_⟩
  rw [Tryd.params3] at ht
  have := Array.mem_of_getElem? ht
  simp at this
  rcases this with rfl | rfl | rfl | rfl
  · exact (show Tryd.prog.wantsStandIn 22 = false by kernel_rfl)
  · exact (show Tryd.prog.wantsStandIn 4 = false by kernel_rfl)
  · exact (show Tryd.prog.wantsStandIn 24 = false by kernel_rfl)
  · exact (show Tryd.prog.wantsStandIn 22 = false by kernel_rfl)

theorem proved : Rows.FrameTripCardSaid :=
  Claim7.holds_tied_plain_at .later [] _ _ _ _ said (fun _ h => by cases h) (by kernel_rfl) (fun _ h => by cases h) frameTrip_row_tie rfl ⟨rfl, rfl⟩ (by kernel_rfl) rfl plain (by kernel_rfl)
#print axioms proved


end Go.Proofs.YtonkgiiacholeaaDoor.ftrip
