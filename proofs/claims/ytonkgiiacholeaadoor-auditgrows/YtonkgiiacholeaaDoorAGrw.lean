/- For any two numbers, any two digests and any digests the Go function sealskinlaw15.AuditGrows returns true, and its arguments read as they did. No condition. -/
import Derived.Test.YtonkgiiacholeaaDoorARGs
namespace Go.Proofs.YtonkgiiacholeaaDoor.agrows
set_option linter.unusedVariables false
set_option linter.unusedSimpArgs false
open Go.ChangeShapes Go.WideShapes Go.ChangeAt Go.RowKit Go.Joins

set_option maxRecDepth 100000 in
set_option maxHeartbeats 8000000 in
theorem grows_bad (m n : Int) (A B : Array Value) (vp : Value) (w : World) (hb : m < 1 ∨ n < m ∨ 1099511627776 < n) :
    Calls Tryd.prog 38 #[.int .i64 m, .int .i64 n, .agg A, .agg B, vp] w fun e w' => e = .returned (.int .i64 1) ∧ Below w.heap.size w w' := by
  have HB1 : Hid (Below w.heap.size w ((w.alloc (.cells A 43)).alloc (.cells B 43))) := hide (bal (bal (Below.refl _ _) _) _)
  by_cases c1 : m < 1
  · clear hb
    go_enter Tryd.func38, Tryd.ntmps38
    go_wp2_with fail
    go_ret
    exact ⟨rfl, unhide HB1⟩
  by_cases c2 : n < m
  · clear hb
    go_enter Tryd.func38, Tryd.ntmps38
    go_wp2_with fail
    go_ret
    exact ⟨rfl, unhide HB1⟩
  · have c3 : (1099511627776 : Int) < n := by omega
    clear hb
    go_enter Tryd.func38, Tryd.ntmps38
    go_wp2_with fail
    go_ret
    exact ⟨rfl, unhide HB1⟩
set_option maxRecDepth 100000 in
set_option maxHeartbeats 8000000 in
theorem rgrows_bad (m n : Int) (A B : Array Value) (vp : Value) (w : World) (hb : m < 1 ∨ n < m ∨ 1099511627776 < n) :
    Calls Tryd.prog 39 #[.int .i64 m, .int .i64 n, .agg A, .agg B, vp] w fun e w' => e = .returned (.int .i64 1) ∧ Below w.heap.size w w' := by
  have HB1 : Hid (Below w.heap.size w ((w.alloc (.cells A 43)).alloc (.cells B 43))) := hide (bal (bal (Below.refl _ _) _) _)
  by_cases c1 : m < 1
  · clear hb
    go_enter Tryd.func39, Tryd.ntmps39
    go_wp2_with fail
    go_ret
    exact ⟨rfl, unhide HB1⟩
  by_cases c2 : n < m
  · clear hb
    go_enter Tryd.func39, Tryd.ntmps39
    go_wp2_with fail
    go_ret
    exact ⟨rfl, unhide HB1⟩
  · have c3 : (1099511627776 : Int) < n := by omega
    clear hb
    go_enter Tryd.func39, Tryd.ntmps39
    go_wp2_with fail
    go_ret
    exact ⟨rfl, unhide HB1⟩
/-- what both answer, whatever the numbers -/
def growsI (m n : Int) (old R : List Nat) (P : List (List Nat)) : Int := if m < 1 ∨ n < m ∨ 1099511627776 < n then 1 else growsE m.toNat n.toNat old R P
theorem grows_int (m n : Int) (old R : List Nat) (P : List (List Nat)) (vp : Value) (w : World) (hT : Tabs w) (ho : old.length = 32) (ho8 : U8 old) (hR : R.length = 32) (hP : PS w vp P) :
    Calls Tryd.prog 38 #[.int .i64 m, .int .i64 n, .agg (bv old).toArray, .agg (bv R).toArray, vp] w fun e w' => e = .returned (.int .i64 (growsI m n old R P)) ∧ Below w.heap.size w w' := by
  unfold growsI
  by_cases hb : m < 1 ∨ n < m ∨ 1099511627776 < n
  · rw [if_pos hb]
    exact grows_bad m n _ _ vp w hb
  · rw [if_neg hb]
    obtain ⟨m', rfl⟩ := Int.eq_ofNat_of_zero_le (show 0 ≤ m by omega)
    obtain ⟨n', rfl⟩ := Int.eq_ofNat_of_zero_le (show 0 ≤ n by omega)
    simp only [Int.toNat_natCast]
    exact grows_ok m' n' old R P vp w hT (by omega) (by omega) (by omega) ho ho8 hR hP
theorem rgrows_int (m n : Int) (old R : List Nat) (P : List (List Nat)) (vp : Value) (w : World) (ho : old.length = 32) (ho8 : U8 old) (hR : R.length = 32) (hP : PS w vp P) :
    Calls Tryd.prog 39 #[.int .i64 m, .int .i64 n, .agg (bv old).toArray, .agg (bv R).toArray, vp] w fun e w' => e = .returned (.int .i64 (growsI m n old R P)) ∧ Below w.heap.size w w' := by
  unfold growsI
  by_cases hb : m < 1 ∨ n < m ∨ 1099511627776 < n
  · rw [if_pos hb]
    exact rgrows_bad m n _ _ vp w hb
  · rw [if_neg hb]
    obtain ⟨m', rfl⟩ := Int.eq_ofNat_of_zero_le (show 0 ≤ m by omega)
    obtain ⟨n', rfl⟩ := Int.eq_ofNat_of_zero_le (show 0 ≤ n by omega)
    simp only [Int.toNat_natCast]
    exact rgrows_ok m' n' old R P vp w (by omega) (by omega) (by omega) ho ho8 hR hP
set_option maxRecDepth 100000 in
set_option maxHeartbeats 8000000 in
theorem walk (m n : Int) (old R : List Nat) (P : List (List Nat)) (pa : Option Addr) (pn pc : Nat) (w : World) (hT : Tabs w) (hpn : P.length = pn) (hP : P.length ≤ 1000000 → PS w (.slice pa pn pc) P) (ho : old.length = 32) (ho8 : U8 old) (hR : R.length = 32) :
    Calls Tryd.prog 9 #[.int .i64 m, .int .i64 n, .agg (bv old).toArray, .agg (bv R).toArray, .slice pa pn pc] w fun e w' => e = .returned (.bool true) ∧ Below w.heap.size w w' := by
  obtain ⟨X, hX⟩ : ∃ X, bv old = X := ⟨_, rfl⟩
  have hiX : (Tryd.prog.info? 43).map (·.size) = some X.length := hX ▸ size43 ho
  obtain ⟨XA, hXA⟩ : ∃ A, X.toArray = A := ⟨_, rfl⟩
  obtain ⟨Y, hY⟩ : ∃ X, bv R = X := ⟨_, rfl⟩
  have hiY : (Tryd.prog.info? 43).map (·.size) = some Y.length := hY ▸ size43 hR
  obtain ⟨YA, hYA⟩ : ∃ A, Y.toArray = A := ⟨_, rfl⟩
  rw [hX, hXA, hY, hYA]
  have HB1 : Hid (Below w.heap.size w ((w.alloc (.cells XA 43)).alloc (.cells YA 43))) := hide (bal (bal (Below.refl _ _) _) _)
  have HAW := hide (p := ∀ W, Below w.heap.size w W → _) (fun W hW => aawake_any W (hT.below hW))
  by_cases q : 100 < pn
  · have q2 : (100 : Int) < (pn : Int) := by omega
    clear hP hR hX hiX hXA hY hiY hYA hpn hT ho ho8
    clear q
    go_enter Tryd.func9, Tryd.ntmps9
    go_wp2_with fail
    refine Calls.mono (unhide HAW _ (unhide HB1)) ?_
    rintro e w9 ⟨rfl, b9⟩
    have HF := hide (bcall (unhide HB1) b9)
    clear b9
    go_wp2_with fail
    go_ret
    exact ⟨rfl, unhide HF⟩
  have q2 : ¬ (100 : Int) < (pn : Int) := by omega
  have hPS := hP (by omega)
  have bx : Below (w.alloc (.cells XA 43)).heap.size (w.alloc (.cells XA 43)) ((w.alloc (.cells XA 43)).alloc (.cells YA 43)) := (Below.refl _ _).alloc (Nat.le_refl _) _
  have hr7 : RowAt ((w.alloc (.cells XA 43)).alloc (.cells YA 43)) w.heap.size 43 X := by
    have r0 : RowAt (w.alloc (.cells XA 43)) w.heap.size 43 X := hXA ▸ RowAt.new w 43 X
    exact r0.below bx r0.lt
  have hr8 : RowAt ((w.alloc (.cells XA 43)).alloc (.cells YA 43)) (w.heap.size + 1) 43 Y := by
    have := RowAt.new (w.alloc (.cells XA 43)) 43 Y
    rw [hYA, size_alloc] at this
    exact this
  have hst : K3 ((w.alloc (.cells XA 43)).alloc (.cells YA 43)) ((w.alloc (.cells XA 43)).alloc (.cells YA 43)) w.heap.size (w.heap.size + 1) (w.heap.size + 1) X Y Y := ⟨hr7.range, hr8.range, hr8.range, Below.refl _ _⟩
  have HPV := hide (p := ∀ W, Below ((w.alloc (.cells XA 43)).alloc (.cells YA 43)).heap.size ((w.alloc (.cells XA 43)).alloc (.cells YA 43)) W → _) (fun W hW => grows_int m n old R P (.slice pa pn pc) W (hT.below (bcall (unhide HB1) hW)) ho ho8 hR (hPS.call (bcall (unhide HB1) hW)))
  have HRV := hide (p := ∀ W, Below ((w.alloc (.cells XA 43)).alloc (.cells YA 43)).heap.size ((w.alloc (.cells XA 43)).alloc (.cells YA 43)) W → _) (fun W hW => rgrows_int m n old R P (.slice pa pn pc) W ho ho8 hR (hPS.call (bcall (unhide HB1) hW)))
  have HAW2 := hide (p := ∀ W, Below ((w.alloc (.cells XA 43)).alloc (.cells YA 43)).heap.size ((w.alloc (.cells XA 43)).alloc (.cells YA 43)) W → _) (fun W hW => aawake_any W (hT.below (bcall (unhide HB1) hW)))
  rw [hX, hXA, hY, hYA] at HPV HRV
  obtain ⟨E, hE⟩ : ∃ E, growsI m n old R P = E := ⟨_, rfl⟩
  rw [hE] at HPV HRV
  clear hP hPS hR hX hY hpn hT hE hr7 hr8 bx q HAW ho ho8
  go_enter Tryd.func9, Tryd.ntmps9
  go_wp2_with fail
  generalize (w.alloc (.cells XA 43)).alloc (.cells YA 43) = w1 at *
  have hk0 : Below w1.heap.size w1 w1.drew := (Below.refl _ _).drew
  refine wp_region_held_drew (S := fun w' => K3 w1 w' w.heap.size (w.heap.size + 1) (w.heap.size + 1) X Y Y) (by kernel_rfl) (K3.call hst hk0) (fun hHeld => ?_)
  refine wpAnyH_take (i := 0) (oi := { dst := some 15, op := Op.move (Operand.tmp 0), type := 3, pos := "law.go:125", after := #[], guard := none }) (v := .int .i64 m) rfl (by kernel_rfl) (by kernel_rfl) (by kernel_rfl) (fun _ _ _ h => h) (Or.inl ⟨by rfl, ?_⟩) hHeld ?_
  · intro w hSw
    first
      | rfl
      | (go_simp; done)
  try simp only [Act.put, List.setIfInBounds_toArray, List.set_cons_zero, List.set_cons_succ]
  refine wpAnyH_take (i := 1) (oi := { dst := some 16, op := Op.move (Operand.tmp 1), type := 3, pos := "law.go:125", after := #[], guard := none }) (v := .int .i64 n) rfl (by kernel_rfl) (by kernel_rfl) (by kernel_rfl) (fun _ _ _ h => h) (Or.inl ⟨by rfl, ?_⟩) hHeld ?_
  · intro w hSw
    first
      | rfl
      | (go_simp; done)
  try simp only [Act.put, List.setIfInBounds_toArray, List.set_cons_zero, List.set_cons_succ]
  refine wpAnyH_take (i := 2) (oi := { dst := some 17, op := Op.load 43 (Operand.tmp 7), type := 43, pos := "law.go:125", after := #[], guard := none }) (v := .agg X.toArray) rfl (by kernel_rfl) (by kernel_rfl) (by kernel_rfl) (fun _ _ _ h => h)
    (yieldsIf_load_mid (by rfl) _ _ rfl w.heap.size 0 rfl X _ (fun w h => h.1) Tryd.underlying43 rfl hiX) hHeld ?_
  try simp only [Act.put, List.setIfInBounds_toArray, List.set_cons_zero, List.set_cons_succ]
  refine wpAnyH_take (i := 3) (oi := { dst := some 18, op := Op.load 43 (Operand.tmp 8), type := 43, pos := "law.go:125", after := #[], guard := none }) (v := .agg Y.toArray) rfl (by kernel_rfl) (by kernel_rfl) (by kernel_rfl) (fun _ _ _ h => h)
    (yieldsIf_load_mid (by rfl) _ _ rfl (w.heap.size + 1) 0 rfl Y _ (fun w h => h.2.1) Tryd.underlying43 rfl hiY) hHeld ?_
  try simp only [Act.put, List.setIfInBounds_toArray, List.set_cons_zero, List.set_cons_succ]
  rw [hXA, hYA]
  refine wpAnyH_take (i := 4) (oi := { dst := some 19, op := Op.move (Operand.tmp 4), type := 54, pos := "law.go:125", after := #[], guard := none }) (v := .slice pa pn pc) rfl (by kernel_rfl) (by kernel_rfl) (by kernel_rfl) (fun _ _ _ h => h) (Or.inl ⟨by rfl, ?_⟩) hHeld ?_
  · intro w hSw
    first
      | rfl
      | (go_simp; done)
  try simp only [Act.put, List.setIfInBounds_toArray, List.set_cons_zero, List.set_cons_succ]
  refine wpAnyH_take (i := 6) (oi := { dst := some 21, op := Op.move (Operand.tmp 0), type := 3, pos := "law.go:125", after := #[], guard := none }) (v := .int .i64 m) rfl (by kernel_rfl) (by kernel_rfl) (by kernel_rfl) (fun _ _ _ h => h) (Or.inl ⟨by rfl, ?_⟩) hHeld ?_
  · intro w hSw
    first
      | rfl
      | (go_simp; done)
  try simp only [Act.put, List.setIfInBounds_toArray, List.set_cons_zero, List.set_cons_succ]
  refine wpAnyH_take (i := 7) (oi := { dst := some 22, op := Op.move (Operand.tmp 1), type := 3, pos := "law.go:125", after := #[], guard := none }) (v := .int .i64 n) rfl (by kernel_rfl) (by kernel_rfl) (by kernel_rfl) (fun _ _ _ h => h) (Or.inl ⟨by rfl, ?_⟩) hHeld ?_
  · intro w hSw
    first
      | rfl
      | (go_simp; done)
  try simp only [Act.put, List.setIfInBounds_toArray, List.set_cons_zero, List.set_cons_succ]
  refine wpAnyH_take (i := 8) (oi := { dst := some 23, op := Op.load 43 (Operand.tmp 7), type := 43, pos := "law.go:125", after := #[], guard := none }) (v := .agg X.toArray) rfl (by kernel_rfl) (by kernel_rfl) (by kernel_rfl) (fun _ _ _ h => h)
    (yieldsIf_load_mid (by rfl) _ _ rfl w.heap.size 0 rfl X _ (fun w h => h.1) Tryd.underlying43 rfl hiX) hHeld ?_
  try simp only [Act.put, List.setIfInBounds_toArray, List.set_cons_zero, List.set_cons_succ]
  refine wpAnyH_take (i := 9) (oi := { dst := some 24, op := Op.load 43 (Operand.tmp 8), type := 43, pos := "law.go:125", after := #[], guard := none }) (v := .agg Y.toArray) rfl (by kernel_rfl) (by kernel_rfl) (by kernel_rfl) (fun _ _ _ h => h)
    (yieldsIf_load_mid (by rfl) _ _ rfl (w.heap.size + 1) 0 rfl Y _ (fun w h => h.2.1) Tryd.underlying43 rfl hiY) hHeld ?_
  try simp only [Act.put, List.setIfInBounds_toArray, List.set_cons_zero, List.set_cons_succ]
  rw [hXA, hYA]
  refine wpAnyH_take (i := 10) (oi := { dst := some 25, op := Op.move (Operand.tmp 4), type := 54, pos := "law.go:125", after := #[], guard := none }) (v := .slice pa pn pc) rfl (by kernel_rfl) (by kernel_rfl) (by kernel_rfl) (fun _ _ _ h => h) (Or.inl ⟨by rfl, ?_⟩) hHeld ?_
  · intro w hSw
    first
      | rfl
      | (go_simp; done)
  try simp only [Act.put, List.setIfInBounds_toArray, List.set_cons_zero, List.set_cons_succ]
  refine wpAnyH_ready (rs := [5]) (by kernel_rfl) (by simp) ?_
  refine AllReadyH.cons (o := { dst := some 20, op := Op.call { callee := Callee.value (Operand.func 38), args := #[Operand.tmp 15, Operand.tmp 16, Operand.tmp 17, Operand.tmp 18, Operand.tmp 19], argTypes := #[3, 3, 43, 43, 54] }, type := 26, pos := "law.go:125", after := #[{ on := 0, ground := Ground.data }, { on := 1, ground := Ground.data }, { on := 2, ground := Ground.data }, { on := 3, ground := Ground.data }, { on := 4, ground := Ground.data }], guard := none }) rfl (fun K hK => ?_) AllReadyH.nil
  go_simp
  refine Calls.mono (unhide HPV _ hk0) ?_
  rintro e w3 ⟨rfl, b3⟩
  have k3 := bcall hk0 b3
  go_wp2_with fail
  refine hK.out _ _ ?_ (fun hHeld => ?_)
  · exact K3.call hst k3
  clear hK K
  try simp only [Act.put, List.setIfInBounds_toArray, List.set_cons_zero, List.set_cons_succ]
  refine wpAnyH_ready (rs := [11]) (by kernel_rfl) (by simp) ?_
  refine AllReadyH.cons (o := { dst := some 26, op := Op.call { callee := Callee.value (Operand.func 39), args := #[Operand.tmp 21, Operand.tmp 22, Operand.tmp 23, Operand.tmp 24, Operand.tmp 25], argTypes := #[3, 3, 43, 43, 54] }, type := 26, pos := "law.go:125", after := #[{ on := 6, ground := Ground.data }, { on := 7, ground := Ground.data }, { on := 8, ground := Ground.data }, { on := 9, ground := Ground.data }, { on := 10, ground := Ground.data }, { on := 5, ground := Ground.chain }], guard := none }) rfl (fun K hK => ?_) AllReadyH.nil
  go_simp
  refine Calls.mono (unhide HRV _ k3) ?_
  rintro e w4 ⟨rfl, b4⟩
  have k4 := bcall k3 b4
  go_wp2_with fail
  refine hK.out _ _ ?_ (fun hHeld => ?_)
  · exact K3.call hst k4
  clear hK K
  try simp only [Act.put, List.setIfInBounds_toArray, List.set_cons_zero, List.set_cons_succ]
  refine wpAnyH_take (i := 12) (oi := { dst := some 27, op := Op.binOp BinOp.eql 26 (Operand.tmp 20) (Operand.tmp 26) 26, type := 4, pos := "law.go:125", after := #[{ on := 5, ground := Ground.data }, { on := 11, ground := Ground.data }], guard := none }) (v := .bool true) rfl (by kernel_rfl) (by kernel_rfl) (by kernel_rfl) (fun _ _ _ h => h) (Or.inl ⟨by rfl, ?_⟩) hHeld ?_
  · intro w hSw
    first
      | rfl
      | (go_simp; done)
  try simp only [Act.put, List.setIfInBounds_toArray, List.set_cons_zero, List.set_cons_succ]
  refine wpAnyH_take (i := 13) (oi := { dst := some 28, op := Op.move (Operand.tmp 27), type := 4, pos := "law.go:125", after := #[{ on := 12, ground := Ground.data }, { on := 11, ground := Ground.chain }], guard := none }) (v := .bool true) rfl (by kernel_rfl) (by kernel_rfl) (by kernel_rfl) (fun _ _ _ h => h) (Or.inl ⟨by rfl, ?_⟩) hHeld ?_
  · intro w hSw
    first
      | rfl
      | (go_simp; done)
  try simp only [Act.put, List.setIfInBounds_toArray, List.set_cons_zero, List.set_cons_succ]
  refine wpAnyH_ready (rs := [14]) (by kernel_rfl) (by simp) ?_
  refine AllReadyH.cons (o := { dst := some 29, op := Op.call { callee := Callee.value (Operand.func 21), args := #[], argTypes := #[] }, type := 4, pos := "law.go:125", after := #[{ on := 13, ground := Ground.chain }, { on := 13, ground := Ground.guard }], guard := some (13, true) }) rfl (fun K hK => ?_) AllReadyH.nil
  go_simp
  refine Calls.mono (unhide HAW2 _ k4) ?_
  rintro e w5 ⟨rfl, b5⟩
  have k5 := bcall k4 b5
  go_wp2_with fail
  refine hK.out _ _ ?_ (fun hHeld => ?_)
  · exact K3.call hst k5
  clear hK K
  try simp only [Act.put, List.setIfInBounds_toArray, List.set_cons_zero, List.set_cons_succ]
  refine wpAnyH_take (i := 15) (oi := { dst := some 30, op := Op.pick (Operand.tmp 28) (Operand.tmp 29) (Operand.const (Value.bool false)), type := 4, pos := "law.go:125", after := #[{ on := 13, ground := Ground.data }, { on := 14, ground := Ground.data }], guard := none }) (v := .bool true) rfl (by kernel_rfl) (by kernel_rfl) (by kernel_rfl) (fun _ _ _ h => h) (Or.inl ⟨by rfl, ?_⟩) hHeld ?_
  · intro w hSw
    first
      | rfl
      | (go_simp; done)
  try simp only [Act.put, List.setIfInBounds_toArray, List.set_cons_zero, List.set_cons_succ]
  refine wpAnyH_take (i := 16) (oi := { dst := some 10, op := Op.assign (Operand.tmp 30), type := 4, pos := "law.go:125", after := #[{ on := 15, ground := Ground.data }, { on := 14, ground := Ground.chain }, { on := 0, ground := Ground.phase }, { on := 1, ground := Ground.phase }, { on := 2, ground := Ground.phase }, { on := 3, ground := Ground.phase }, { on := 4, ground := Ground.phase }, { on := 5, ground := Ground.phase }, { on := 6, ground := Ground.phase }, { on := 7, ground := Ground.phase }, { on := 8, ground := Ground.phase }, { on := 9, ground := Ground.phase }, { on := 10, ground := Ground.phase }, { on := 11, ground := Ground.phase }, { on := 12, ground := Ground.phase }, { on := 13, ground := Ground.phase }, { on := 14, ground := Ground.phase }, { on := 15, ground := Ground.phase }], guard := none }) (v := .bool true) rfl (by kernel_rfl) (by kernel_rfl) (by kernel_rfl) (fun _ _ _ h => h) (Or.inl ⟨by rfl, ?_⟩) hHeld ?_
  · intro w hSw
    first
      | rfl
      | (go_simp; done)
  try simp only [Act.put, List.setIfInBounds_toArray, List.set_cons_zero, List.set_cons_succ]
  refine wpAnyH_done (by kernel_rfl) ?_ _
  go_wp2_with fail
  go_ret
  exact ⟨by first | rfl | kernel_rfl, bcall (unhide HB1) k5⟩

set_option maxRecDepth 100000 in
theorem contract (H : Type) (enc : TypeId × Value → H) (W : World) (base : Nat) (args : Array Value) (ds gs : List (DataW H)) (before : List MemPlace)
    (hval : ∀ (j : Nat) t v, Tryd.f9.params[j]? = some t → args[j]? = some v → Value.okWide Tryd.prog W .any base t v)
    (hW : DataW.Whole enc Tryd.prog Tryd.f9.params.toList Rows.auditGrowsSpec.vars false W args.toList ds gs before) (hL : laidMetH Tryd.prog Rows.auditGrowsRow.laid W) :
    Calls Tryd.prog 9 args W fun e W' => ∃ v, e = .returned v ∧ Rows.auditGrowsSpec.post enc Tryd.prog Tryd.f9 false true false false W args v W' := by
  have hT : Tabs W := tabs_of hL
  have hW' := hW
  obtain ⟨p, q, hA0, hV, rfl, hfz, hnd⟩ := hW
  have hA : DataW.TrodAll enc Tryd.prog W 0 (fun _ => true) true Tryd.f9.params.toList args.toList ds p := hA0
  rw [Tryd.params9] at hA hval
  obtain ⟨v0, vs0, d0, ds0, p0, q0, hargs, rfl, rfl, h0, r0⟩ := trodAll_cons hA
  obtain ⟨v1, vs1, d1, ds1, p1, q1, rfl, rfl, rfl, h1, r1⟩ := trodAll_cons r0
  obtain ⟨v2, vs2, d2, ds2, p2, q2, rfl, rfl, rfl, h2, r2⟩ := trodAll_cons r1
  obtain ⟨v3, vs3, d3, ds3, p3, q3, rfl, rfl, rfl, h3, r3⟩ := trodAll_cons r2
  obtain ⟨v4, vs4, d4, ds4, p4, q4, rfl, rfl, rfl, h4, r4⟩ := trodAll_cons r3
  obtain ⟨rfl, rfl, rfl⟩ := trodAll_nil r4
  obtain rfl : args = #[v0, v1, v2, v3, v4] := by cases args; simp_all
  obtain ⟨rfl, rfl⟩ := trodVars_none hV
  have lt0 : ∀ x ∈ p0, x.block < W.heap.size := by obtain ⟨m, hm⟩ := h0; exact DataW.trod_lt m _ _ _ hm
  have lt1 : ∀ x ∈ p1, x.block < W.heap.size := by obtain ⟨m, hm⟩ := h1; exact DataW.trod_lt m _ _ _ hm
  have lt2 : ∀ x ∈ p2, x.block < W.heap.size := by obtain ⟨m, hm⟩ := h2; exact DataW.trod_lt m _ _ _ hm
  have lt3 : ∀ x ∈ p3, x.block < W.heap.size := by obtain ⟨m, hm⟩ := h3; exact DataW.trod_lt m _ _ _ hm
  have lt4 : ∀ x ∈ p4, x.block < W.heap.size := by obtain ⟨m, hm⟩ := h4; exact DataW.trod_lt m _ _ _ hm
  obtain ⟨n0, rfl⟩ := open_i64 (hval 0 3 v0 rfl rfl) h0
  obtain ⟨n1, rfl⟩ := open_i64 (hval 1 3 v1 rfl rfl) h1
  obtain ⟨old, rfl, ho, ho8⟩ := open_sum (hval 2 43 v2 rfl rfl) h2
  obtain ⟨R, rfl, hR, hR8⟩ := open_sum (hval 3 43 v3 rfl rfl) h3
  obtain ⟨P, pa, pc, hv, hP⟩ := open_sums (hval 4 54 v4 rfl rfl) h4
  subst hv
  clear hA0
  refine (walk n0 n1 old R P pa P.length pc W hT rfl hP ho ho8 hR).mono fun e W' ⟨he, bel⟩ => ?_
  subst he
  exact ⟨_, rfl, _, _, _, [], _, [], hW', trodAll_mk1 (shut_bool Tryd.underlying4 _), (trodAll_cons_mk (Below.trod laidOut (by kernel_rfl) (of_decide_eq_true (by kernel_rfl)) h0 bel lt0) (trodAll_cons_mk (Below.trod laidOut (by kernel_rfl) (of_decide_eq_true (by kernel_rfl)) h1 bel lt1) (trodAll_cons_mk (Below.trod laidOut (by kernel_rfl) (of_decide_eq_true (by kernel_rfl)) h2 bel lt2) (trodAll_cons_mk (Below.trod laidOut (by kernel_rfl) (of_decide_eq_true (by kernel_rfl)) h3 bel lt3) (trodAll_cons_mk (Below.trod laidOut (by kernel_rfl) (of_decide_eq_true (by kernel_rfl)) h4 bel lt4) trodAll_mk0))))), rfl, bel.frame _, fun h => by cases h⟩

set_option maxRecDepth 100000 in
theorem laid_here (os : Os) : laidMet Tryd.prog Rows.auditGrowsRow.laid ((laidWorld os).forCall (fun _ _ => 0) ⟨#[], #[.int .i64 0, .int .i64 0, .agg (bv (List.replicate 32 0)).toArray, .agg (bv (List.replicate 32 0)).toArray, .slice none 0 0], []⟩).memory :=
  laidMet_of_run' 8 (by kernel_rfl) (by kernel_rfl)
theorem reads (os : Os) {H : Type} (enc : TypeId × Value → H) : ∃ places, DataW.whole enc Tryd.prog ((laidWorld os).forCall (fun _ _ => 0) ⟨#[], #[.int .i64 0, .int .i64 0, .agg (bv (List.replicate 32 0)).toArray, .agg (bv (List.replicate 32 0)).toArray, .slice none 0 0], []⟩).memory Tryd.f9.params.toList Rows.auditGrowsSpec.vars false (#[.int .i64 0, .int .i64 0, .agg (bv (List.replicate 32 0)).toArray, .agg (bv (List.replicate 32 0)).toArray, .slice none 0 0] : Array Value).toList 8 = some ([.lit (.int .i64 0), .lit (.int .i64 0), .agg (List.replicate 32 (.lit (.int .u8 0))), .agg (List.replicate 32 (.lit (.int .u8 0))), .nil], [], places) :=
  ⟨[], by kernel_rfl⟩

set_option maxRecDepth 100000 in
theorem lifted (os : Os) (started : os.Started) (H : Type) (enc : TypeId × Value → H) (F : Stop.Interp) :
    ReturnsInHanded {} Tryd.checked os 9 .any ((OpenSpec.ofChange Rows.auditGrowsSpec).preRow enc Tryd.prog Tryd.f9 Rows.auditGrowsRow.domain false Rows.auditGrowsRow.laid) (((OpenSpec.ofChange Rows.auditGrowsSpec).at F).post enc Tryd.prog Tryd.f9 false true false false) := by
  obtain ⟨places, hx⟩ := reads os enc
  refine returnsInHanded_of_row (C := Tryd.checked) (s := OpenSpec.ofChange Rows.auditGrowsSpec) own started (by kernel_rfl) Tryd.func9
    (witness_row_at (enc := enc) (C := Tryd.checked) false (laidWorld os) #[.int .i64 0, .int .i64 0, .agg (bv (List.replicate 32 0)).toArray, .agg (bv (List.replicate 32 0)).toArray, .slice none 0 0] rfl (by kernel_rfl) (by kernel_rfl) (by kernel_rfl)
      (OpenSpec.preRow_of_cond 8 hx (by kernel_rfl) (fun k hk => by cases hk) (by kernel_rfl) (laid_here os))) ?_
  intro W base args ds gs before hval hW _ _ _ hL _ _
  exact contract H enc W base args ds gs before hval hW hL

set_option maxRecDepth 100000 in
theorem said : Rows.AuditGrowsSaid :=
  OpenClaim.holds_of_cond 9 Tryd.f9 rfl rfl rfl rfl rfl rfl rfl ⟨rfl, rfl, rfl, rfl, rfl⟩ rfl rfl rfl rfl rfl (by kernel_rfl) Tryd.func9 (by kernel_rfl)
    (of_decide_eq_true (by kernel_rfl)) (by unfold Func.isWrapper; first | (rw [if_pos (by decide +kernel)]; kernel_rfl) | (rw [if_neg (by decide +kernel)]; exact ⟨rfl, rfl⟩))
    (fun os started H enc _ F => by rw [OpenClaim.pre_eq_preRow]; exact lifted os started H enc F)

set_option maxRecDepth 100000 in
theorem plain (f : FuncId) (fn : Func) (hf : Tryd.pinned.checked.prog.funcNamed "sealskin/sealskinlaw15.AuditGrows" = some f) (hfn : Tryd.pinned.checked.prog.funcs[f]? = some fn) :
    false = Tryd.pinned.checked.prog.looks [] ∧ ∀ (j : Nat) t, fn.params[j]? = some t → Tryd.pinned.checked.prog.wantsStandIn t = false := by
  obtain rfl : f = 9 := Option.some.inj ((show Tryd.prog.funcNamed "sealskin/sealskinlaw15.AuditGrows" = some 9 by kernel_rfl).symm.trans hf) |>.symm
  obtain rfl : fn = Tryd.f9 := (Option.some.inj (Tryd.func9.symm.trans hfn)).symm
  refine ⟨by kernel_rfl, fun j t ht => ?_⟩
  rw [Tryd.params9] at ht
  have := Array.mem_of_getElem? ht
  simp at this
  rcases this with rfl | rfl | rfl
  · exact (show Tryd.prog.wantsStandIn 3 = false by kernel_rfl)
  · exact (show Tryd.prog.wantsStandIn 43 = false by kernel_rfl)
  · exact (show Tryd.prog.wantsStandIn 54 = false by kernel_rfl)

theorem proved : Rows.AuditGrowsCardSaid :=
  Claim7.holds_tied_plain_at .later [] _ _ _ _ said (fun _ h => by cases h) (by kernel_rfl) (fun _ h => by cases h) auditGrows_row_tie rfl ⟨rfl, rfl⟩ (by kernel_rfl) rfl plain (by kernel_rfl)
#print axioms proved
end Go.Proofs.YtonkgiiacholeaaDoor.agrows
