/- For any two numbers the Go function sealskinlaw02.OctetOrder returns true, and its arguments read as they did. No condition. -/
import Derived.Test.YtbahnkomdndmkadDoorLaid
import Derived.Lib.Bytealg
import Derived.Lib.BytesEntry
import Derived.Laws.Externs
namespace Go.Proofs.YtbahnkomdndmkadDoor.order
set_option linter.unusedVariables false
set_option linter.unusedSimpArgs false
open Go.ChangeShapes Go.WideShapes Go.ChangeAt Go.RowKit Go.Joins

theorem byt_load {w : World} {v : Value} {l : List Nat} (h : Byt w v l) (h256 : ∀ y ∈ l, y < 256) : (Extern.Bytes.bytesOf v).run Tryd.prog w = .ok (strOf l) w := by
  rcases h with ⟨rfl, rfl⟩ | ⟨a, cap, rfl, h1, h2, h3⟩
  · simp [Extern.Bytes.bytesOf]
    rfl
  · have q := Lib.run_loadBytesX (P := Tryd.prog) w (l.map fun (x : Nat) => (x : Int)) a .empty (fun j x hj => by
      rw [List.getElem?_map] at hj
      obtain ⟨y, hy, rfl⟩ := Option.map_eq_some_iff.1 hj
      exact h3 j y hy)
    rw [List.length_map] at q
    simp only [Extern.Bytes.bytesOf]
    rw [q]
    congr 1
    simp [strOf, Lib.bytesOf, ByteArray.empty, ByteArray.emptyWithCapacity]
    show List.map _ l = List.map _ l
    apply List.map_congr_left
    intro x _
    simp

theorem numOf_cons (x : Nat) (l : List Nat) : numOf (x :: l) = x * 256 ^ l.length + numOf l := by
  have : ∀ (l : List Nat) (c : Nat), l.foldl (fun u x => u * 256 + x) c = c * 256 ^ l.length + l.foldl (fun u x => u * 256 + x) 0 := by
    intro l
    induction l with
    | nil => intro c; simp
    | cons y l ih =>
      intro c
      simp only [List.foldl_cons, List.length_cons]
      rw [ih (c * 256 + y), ih (0 * 256 + y), Nat.pow_succ, Nat.add_mul, Nat.add_mul, Nat.mul_assoc, Nat.mul_comm 256 (256 ^ l.length)]
      omega
  have q := this l (0 * 256 + x)
  simp only [numOf, List.foldl_cons]
  rw [q]
  simp
theorem cmp_num : ∀ (l m : List Nat), l.length = m.length → (∀ y ∈ l, y < 256) → (∀ y ∈ m, y < 256) →
    Lib.compareBytes (l.map UInt8.ofNat) (m.map UInt8.ofNat) = if numOf l < numOf m then -1 else if numOf m < numOf l then 1 else 0
  | [], [], _, _, _ => by simp [Lib.compareBytes, numOf]
  | x :: l, y :: m, h, hl, hm => by
    have hx := hl x (List.mem_cons_self ..)
    have hy := hm y (List.mem_cons_self ..)
    have hlen : l.length = m.length := by simpa using h
    have ih := cmp_num l m hlen (fun z hz => hl z (List.mem_cons_of_mem _ hz)) (fun z hz => hm z (List.mem_cons_of_mem _ hz))
    have b1 := numOf_lt l (fun z hz => hl z (List.mem_cons_of_mem _ hz))
    have b2 := numOf_lt m (fun z hz => hm z (List.mem_cons_of_mem _ hz))
    rw [← hlen] at b2
    have lt : ∀ a b : Nat, a < 256 → b < 256 → ((UInt8.ofNat a < UInt8.ofNat b) ↔ a < b) := fun a b ha hb => by
      rw [UInt8.lt_iff_toNat_lt]
      simp
      omega
    simp only [List.map_cons, Lib.compareBytes, lt x y hx hy, lt y x hy hx, numOf_cons, ← hlen]
    rw [ih]
    generalize 256 ^ l.length = p at *
    by_cases h1 : x < y
    · have : x * p + numOf l < y * p + numOf m := by
        have : (x + 1) * p ≤ y * p := Nat.mul_le_mul_right p h1
        rw [Nat.add_mul] at this
        omega
      simp [h1, this]
    · by_cases h2 : y < x
      · have : y * p + numOf m < x * p + numOf l := by
          have : (y + 1) * p ≤ x * p := Nat.mul_le_mul_right p h2
          rw [Nat.add_mul] at this
          omega
        have h3 : ¬ x * p + numOf l < y * p + numOf m := by omega
        simp [h1, h2, this, h3]
      · obtain rfl : x = y := by omega
        simp

set_option maxHeartbeats 1000000 in
theorem compare_any (v x : Value) (l m : List Nat) (w : World) (hv : Byt w v l) (hx : Byt w x m) (hl : ∀ y ∈ l, y < 256) (hm : ∀ y ∈ m, y < 256) :
    Calls Tryd.prog 10 #[v, x] w fun e w' => e = .returned (.int .i64 (Lib.compareBytes (l.map UInt8.ofNat) (m.map UInt8.ofNat))) ∧ w = w' := by
  have c1 := byt_load hv hl
  have c2 := byt_load hx hm
  have hrun : (Extern.BytealgCompare.compare #[v, x]).run Tryd.prog w = .ok (.int .i64 (Lib.compareBytes (l.map UInt8.ofNat) (m.map UInt8.ofNat))) w := by
    change Sem.run Tryd.prog (do pure (goInt (Extern.BytealgCompare.cmp (← Extern.Bytes.bytesOf v) (← Extern.Bytes.bytesOf x)))) w = _
    simp only [Sem.run_bind, c1, c2, Sem.run_pure, Result.andThen]
    rw [Lib.cmp_eq]
    simp [strOf]
    rfl
  have hcall : (callFunc 30 #[v, x]).run Tryd.prog w = .ok (.value (.int .i64 (Lib.compareBytes (l.map UInt8.ofNat) (m.map UInt8.ofNat)))) w := by
    rw [run_callFunc_extern Tryd.func30 (by kernel_rfl) (by kernel_rfl) (by kernel_rfl) (e := Extern.BytealgCompare.compare) (by kernel_rfl), hrun]
    rfl
  clear c1 c2 hrun
  obtain ⟨a1, cap1, rfl⟩ := byt_shape hv
  obtain ⟨a2, cap2, rfl⟩ := byt_shape hx
  clear hv hx hl hm
  go_enter Tryd.func10, Tryd.ntmps10
  go_wp2
  go_ret
  exact ⟨rfl, rfl⟩

theorem putA (A : Nat) (w : World) (hA : A ≤ 9223372036854775807) : Calls Tryd.prog 11 #[.slice none 0 0, .slice (some ⟨w.heap.size, 0, none⟩) 1 1] (w.alloc (.cells #[.int .i64 (A : Int)] 3)) fun e w' => ∃ v', e = .returned v' ∧ Byt w' v' (num8 A) ∧ Below w.heap.size w w' := by
  have hB : Below w.heap.size w (w.alloc (.cells #[.int .i64 (A : Int)] 3)) := (Below.refl _ _).alloc (Nat.le_refl _) _
  refine (put_any (.slice none 0 0) [] w.heap.size 1 1 (fun _ => (A : Int)) _ (nil_byt _) (by decide) (by decide) (by simp) ?_).mono ?_
  · intro i hi
    obtain rfl : i = 0 := by omega
    exact ⟨by simp [go_sem], by omega, by omega⟩
  · rintro e w' ⟨v', rfl, ho, hb⟩
    exact ⟨v', rfl, Byt.of_own ho, hB.trans (hb.mono hB.size)⟩

set_option maxHeartbeats 2000000 in
theorem walk (a b : Int) (A B : Nat) (w : World) (hT : Tabs w) (hA : max a 0 = (A : Int)) (hB : max b 0 = (B : Int)) (ha : A ≤ 9223372036854775807) (hb : B ≤ 9223372036854775807) :
    Calls Tryd.prog 4 #[.int .i64 a, .int .i64 b] w fun e w' => e = .returned (.bool true) ∧ Below w.heap.size w w' := by
  go_enter Tryd.func4, Tryd.ntmps4
  go_wp2_with fail
  refine (putA A w ha).mono ?_
  rintro e w1 ⟨v1, rfl, Y1, b1⟩
  obtain ⟨a1, cap1, rfl⟩ := byt_shape Y1
  go_wp2_with fail
  refine (putA B w1 hb).mono ?_
  rintro e w2 ⟨v2, rfl, Y2, b2⟩
  have Y1' := Y1.call b2
  obtain ⟨a2, cap2, rfl⟩ := byt_shape Y2
  have D2 := b1.trans (b2.mono b1.size)
  have T2 := hT.below D2
  have hcmp := cmp_num (num8 A) (num8 B) (by rw [num8_len, num8_len]) (num8_256 A) (num8_256 B)
  rw [numOf_num8 A (by omega), numOf_num8 B (by omega)] at hcmp
  go_wp2_with fail
  refine (compare_any _ _ _ _ _ Y1' Y2 (num8_256 A) (num8_256 B)).mono ?_
  rintro e w' ⟨rfl, rfl⟩
  rw [hcmp]
  clear hcmp Y1 Y1' Y2
  by_cases h1 : A < B
  · have g1 : decide ((A : Int) < (B : Int)) = true := by simp; exact h1
    have g2 : decide ((A : Int) = (B : Int)) = false := by simp; omega
    have g3 : ((A : Int) == (B : Int)) = false := by simp; omega
    rw [if_pos h1]
    go_wp2_with (go_at_call 8; refine (awake_any _ T2).mono ?_; rintro e w3 ⟨rfl, b3⟩)
    go_ret
    exact ⟨rfl, D2.trans (b3.mono D2.size)⟩
  · by_cases h2 : B < A
    · have g1 : decide ((A : Int) < (B : Int)) = false := by simp; omega
      have g2 : decide ((A : Int) = (B : Int)) = false := by simp; omega
      have g3 : ((A : Int) == (B : Int)) = false := by simp; omega
      rw [if_neg h1, if_pos h2]
      go_wp2_with (go_at_call 8; refine (awake_any _ T2).mono ?_; rintro e w3 ⟨rfl, b3⟩)
      go_ret
      exact ⟨rfl, D2.trans (b3.mono D2.size)⟩
    · obtain rfl : A = B := by omega
      rw [if_neg h1, if_neg h2]
      go_wp2_with (go_at_call 8; refine (awake_any _ T2).mono ?_; rintro e w3 ⟨rfl, b3⟩)
      go_ret
      exact ⟨rfl, D2.trans (b3.mono D2.size)⟩

theorem open_i64 {H : Type} {enc : TypeId × Value → H} {W : World} {b0 base : Nat} {spare : Nat → Bool} {held : Bool} {v : Value} {d : DataW H} {p : List MemPlace}
    (hv : Value.okWide Tryd.prog W .any b0 3 v) (h : DataW.Trod enc Tryd.prog W base spare held 3 v d p) : ∃ n : Int, v = .int .i64 n ∧ -9223372036854775808 ≤ n ∧ n ≤ 9223372036854775807 := by
  obtain ⟨n, rfl, _, _, wn⟩ := open_int Tryd.underlying3 hv h
  exact ⟨n, rfl, bounds_i64 wn⟩
theorem nat_of_max (a : Int) (h : a ≤ 9223372036854775807) : ∃ A : Nat, max a 0 = (A : Int) ∧ A ≤ 9223372036854775807 := by
  refine ⟨(max a 0).toNat, ?_, ?_⟩ <;> omega

theorem contract (H : Type) (enc : TypeId × Value → H) (W : World) (base : Nat) (args : Array Value) (ds gs : List (DataW H)) (before : List MemPlace)
    (hval : ∀ (j : Nat) t v, Tryd.f4.params[j]? = some t → args[j]? = some v → Value.okWide Tryd.prog W .any base t v)
    (hW : DataW.Whole enc Tryd.prog Tryd.f4.params.toList Rows.octetOrderSpec.vars false W args.toList ds gs before) (hL : laidMetH Tryd.prog Rows.octetOrderRow.laid W) :
    Calls Tryd.prog 4 args W fun e W' => ∃ v, e = .returned v ∧ Rows.octetOrderSpec.post enc Tryd.prog Tryd.f4 false true false false W args v W' := by
  have hT : Tabs W := tabs_of hL
  have hW' := hW
  obtain ⟨p, q, hA0, hV, rfl, hfz, hnd⟩ := hW
  have hA : DataW.TrodAll enc Tryd.prog W 0 (fun _ => true) true Tryd.f4.params.toList args.toList ds p := hA0
  rw [Tryd.params4] at hA hval
  obtain ⟨v0, vs0, d0, ds0, p0, q0, hargs, rfl, rfl, h0, r0⟩ := trodAll_cons hA
  obtain ⟨v1, vs1, d1, ds1, p1, q1, rfl, rfl, rfl, h1, r1⟩ := trodAll_cons r0
  obtain ⟨rfl, rfl, rfl⟩ := trodAll_nil r1
  obtain rfl : args = #[v0, v1] := by cases args; simp_all
  obtain ⟨rfl, rfl⟩ := trodVars_none hV
  have lt0 : ∀ x ∈ p0, x.block < W.heap.size := by obtain ⟨m, hm⟩ := h0; exact DataW.trod_lt m _ _ _ hm
  have lt1 : ∀ x ∈ p1, x.block < W.heap.size := by obtain ⟨m, hm⟩ := h1; exact DataW.trod_lt m _ _ _ hm
  obtain ⟨x0, rfl, i0⟩ := open_i64 (hval 0 3 v0 rfl rfl) h0
  obtain ⟨x1, rfl, i1⟩ := open_i64 (hval 1 3 v1 rfl rfl) h1
  obtain ⟨A, hA, ha⟩ := nat_of_max x0 i0.2
  obtain ⟨B, hB, hb⟩ := nat_of_max x1 i1.2
  clear hA0
  refine (walk x0 x1 A B W hT hA hB ha hb).mono fun e W' ⟨he, bel⟩ => ?_
  subst he
  exact ⟨_, rfl, _, _, _, [], _, [], hW', trodAll_mk1 (shut_bool Tryd.underlying4 _), (trodAll_cons_mk (Below.trod laidOut (by kernel_rfl) (of_decide_eq_true (by kernel_rfl)) h0 bel lt0) (trodAll_cons_mk (Below.trod laidOut (by kernel_rfl) (of_decide_eq_true (by kernel_rfl)) h1 bel lt1) trodAll_mk0)), rfl, bel.frame _, fun h => by cases h⟩

set_option maxRecDepth 100000 in
theorem laid_here (os : Os) : laidMet Tryd.prog Rows.octetOrderRow.laid ((laidWorld os).forCall (fun _ _ => 0) ⟨#[], #[.int .i64 0, .int .i64 0], []⟩).memory :=
  laidMet_of_run' 8 (by kernel_rfl) (by kernel_rfl)
theorem reads (os : Os) {H : Type} (enc : TypeId × Value → H) : ∃ places, DataW.whole enc Tryd.prog ((laidWorld os).forCall (fun _ _ => 0) ⟨#[], #[.int .i64 0, .int .i64 0], []⟩).memory Tryd.f4.params.toList Rows.octetOrderSpec.vars false (#[.int .i64 0, .int .i64 0] : Array Value).toList 8 = some ([.lit (.int .i64 0), .lit (.int .i64 0)], [], places) :=
  ⟨[], by kernel_rfl⟩

set_option maxRecDepth 100000 in
theorem lifted (os : Os) (started : os.Started) (H : Type) (enc : TypeId × Value → H) (F : Stop.Interp) :
    ReturnsInHanded {} Tryd.checked os 4 .any ((OpenSpec.ofChange Rows.octetOrderSpec).preRow enc Tryd.prog Tryd.f4 Rows.octetOrderRow.domain false Rows.octetOrderRow.laid) (((OpenSpec.ofChange Rows.octetOrderSpec).at F).post enc Tryd.prog Tryd.f4 false true false false) := by
  obtain ⟨places, hx⟩ := reads os enc
  refine returnsInHanded_of_row (C := Tryd.checked) (s := OpenSpec.ofChange Rows.octetOrderSpec) own started (by kernel_rfl) Tryd.func4
    (witness_row_at (enc := enc) (C := Tryd.checked) false (laidWorld os) #[.int .i64 0, .int .i64 0] rfl (by kernel_rfl) (by kernel_rfl) (by kernel_rfl)
      (OpenSpec.preRow_of_cond 8 hx (by kernel_rfl) (fun k hk => by cases hk) (by kernel_rfl) (laid_here os))) ?_
  intro W base args ds gs before hval hW _ _ _ hL _ _
  exact contract H enc W base args ds gs before hval hW hL

theorem said : Rows.OctetOrderSaid :=
  OpenClaim.holds_of_cond 4 Tryd.f4 rfl rfl rfl rfl rfl rfl rfl ⟨rfl, rfl, rfl, rfl, rfl⟩ rfl rfl rfl rfl rfl (by kernel_rfl) Tryd.func4 (by kernel_rfl)
    (of_decide_eq_true (by kernel_rfl)) (by unfold Func.isWrapper; first | (rw [if_pos (by decide +kernel)]; kernel_rfl) | (rw [if_neg (by decide +kernel)]; exact ⟨rfl, rfl⟩))
    (fun os started H enc _ F => by rw [OpenClaim.pre_eq_preRow]; exact lifted os started H enc F)

theorem plain (f : FuncId) (fn : Func) (hf : Tryd.pinned.checked.prog.funcNamed "sealskin/sealskinlaw02.OctetOrder" = some f) (hfn : Tryd.pinned.checked.prog.funcs[f]? = some fn) :
    false = Tryd.pinned.checked.prog.looks [] ∧ ∀ (j : Nat) t, fn.params[j]? = some t → Tryd.pinned.checked.prog.wantsStandIn t = false := by
  obtain rfl : f = 4 := Option.some.inj ((show Tryd.prog.funcNamed "sealskin/sealskinlaw02.OctetOrder" = some 4 by kernel_rfl).symm.trans hf) |>.symm
  obtain rfl : fn = Tryd.f4 := (Option.some.inj (Tryd.func4.symm.trans hfn)).symm
  refine ⟨by kernel_rfl, fun j t ht => ?_⟩
  rw [Tryd.params4] at ht
  obtain rfl : t = 3 := by simpa using Array.mem_of_getElem? ht
  exact (show Tryd.prog.wantsStandIn 3 = false by kernel_rfl)

theorem proved : Rows.OctetOrderCardSaid :=
  Claim7.holds_tied_plain_at .later [] _ _ _ _ said (fun _ h => by cases h) (by kernel_rfl) (fun _ h => by cases h) octetOrder_row_tie rfl ⟨rfl, rfl⟩ (by kernel_rfl) rfl plain (by kernel_rfl)
#print axioms proved
end Go.Proofs.YtbahnkomdndmkadDoor.order
