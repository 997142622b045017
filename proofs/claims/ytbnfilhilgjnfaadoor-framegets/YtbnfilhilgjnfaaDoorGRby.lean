/- The document's reader, whatever the bytes are: bytes. -/
import Derived.Test.YtbnfilhilgjnfaaDoorGRr
import Derived.Test.YtbnfilhilgjnfaaDoorGPu0
namespace Go.Proofs.YtbnfilhilgjnfaaDoor
set_option linter.unusedVariables false
set_option linter.unusedSimpArgs false
set_option maxRecDepth 100000
open Go.ChangeShapes Go.WideShapes Go.ChangeAt Go.RowKit Go.Joins

def bytR (l : List Nat) (most k : Nat) (e : Int) : List Nat × Nat × Int :=
  if e ≠ 0 then ([], k, e)
  else if (Oc.refNum (l.drop k)).2 ≠ 0 then ([], k, (Oc.refNum (l.drop k)).2)
  else if most < (Oc.refNum (l.drop k)).1 then ([], k, 4)
  else if l.length < k + 8 + (Oc.refNum (l.drop k)).1 then ([], k, 2)
  else ((l.drop (k + 8)).take (Oc.refNum (l.drop k)).1, k + 8 + (Oc.refNum (l.drop k)).1, 0)
def RbR (x : List Nat × Nat × Int) (w : World) (g : Nat) (v : Value) (r : Ending) (w' : World) : Prop := ∃ v', r = .returned v' ∧ w'.ownsRow w.heap.size 5 1 v' x.1.length (bv x.1) ∧ RRd w' g v x.2.1 x.2.2 ∧ Only (· = g) w w'
theorem own_nil (w : World) (B : Nat) : w.ownsRow B 5 1 (.slice none 0 0) ([] : List Nat).length (bv []) := World.ownsRow_nil _ _ _ _
/-- no bytes, and why -/
theorem RbR.no {w W : World} {g : Nat} {v : Value} {k : Nat} {z : Int} (hr : RRd W g v k z) (ho : Only (· = g) w W) : RbR ([], k, z) w g v (.returned (.slice none 0 0)) W := ⟨_, rfl, own_nil _ _, hr, ho⟩
set_option maxHeartbeats 2000000 in
theorem rbytes_none (g : Nat) (most : Nat) (z : Int) (w : World) (hr : RRd w g (.slice none 0 0) 0 0) (hz : ¬ z = 0) (hN : Calls Tryd.prog 58 #[.slice none 0 0] w.drew fun e w' => e = .returned (.tuple #[.int .i64 0, .int .i64 z]) ∧ w.drew = w') :
    Calls Tryd.prog 59 #[.pointer (some ⟨g, 0, none⟩), .int .i64 (most : Int)] w fun r w' => RbR ([], 0, z) w g (.slice none 0 0) r w' := by
  have c0 : w.cell? ⟨g, 0, none⟩ = some (.slice none 0 0) := RowAt.cell hr 0
  have c1 : w.cell? ⟨g, 1, none⟩ = some (.int .i64 ((0 : Nat) : Int)) := RowAt.cell hr 1
  have c2 : w.cell? ⟨g, 2, none⟩ = some (.int .i64 0) := RowAt.cell hr 2
  have z2 := RowAt.frozen hr 2
  have HN := hide hN
  have hzb : (z != 0) = true := by simp [hz]
  have hze : (z == 0) = false := by simp [hz]
  have HR0 : Hid (∀ q, RRd ((w.drewN q).setCell ⟨g, 2, none⟩ (.int .i64 z)) g (.slice none 0 0) 0 z) := hide (fun q => RowAt.set (RowAt.drewN hr q) 2 (.int .i64 z))
  have k0 : (0 : Int) ≤ ((0 : Nat) : Int) := by omega
  clear hN hr
  go_enter Tryd.func59, Tryd.ntmps59
  go_wp2_with fail
  go_region_held (fun w' => w'.cell? ⟨g, 0, none⟩ = some (.slice none 0 0) ∧ w'.cell? ⟨g, 1, none⟩ = some (.int .i64 ((0 : Nat) : Int)))
    (exact ⟨c0, c1⟩)
    (first
      | (go_at_call 58; refine Calls.mono (unhide HN) ?_; rintro e wx ⟨rfl, rfl⟩))
  go_wp2_with fail
  go_quiet (fail)
  go_wp2_with fail
  go_ret
  exact RbR.no (unhide HR0 _) (Only.set (p := fun x => x = g) ((Only.refl _ w).drewN _) g 2 _ rfl)
set_option maxHeartbeats 2000000 in
theorem rbytes_end (g : Nat) (a : Addr) (n most : Nat) (z : Int) (w : World) (hr : RRd w g (.slice (some a) n n) n 0) (hz : ¬ z = 0) (hn : n ≤ 1000000000) (hN : Calls Tryd.prog 58 #[.slice (some a) 0 0] w.drew fun e w' => e = .returned (.tuple #[.int .i64 0, .int .i64 z]) ∧ w.drew = w') :
    Calls Tryd.prog 59 #[.pointer (some ⟨g, 0, none⟩), .int .i64 (most : Int)] w fun r w' => RbR ([], n, z) w g (.slice (some a) n n) r w' := by
  have c0 : w.cell? ⟨g, 0, none⟩ = some (.slice (some a) n n) := RowAt.cell hr 0
  have c1 : w.cell? ⟨g, 1, none⟩ = some (.int .i64 ((n : Nat) : Int)) := RowAt.cell hr 1
  have c2 : w.cell? ⟨g, 2, none⟩ = some (.int .i64 0) := RowAt.cell hr 2
  have z2 := RowAt.frozen hr 2
  have HN := hide hN
  have hzb : (z != 0) = true := by simp [hz]
  have hze : (z == 0) = false := by simp [hz]
  have HR0 : Hid (∀ q, RRd ((w.drewN q).setCell ⟨g, 2, none⟩ (.int .i64 z)) g (.slice (some a) n n) n z) := hide (fun q => RowAt.set (RowAt.drewN hr q) 2 (.int .i64 z))
  have k0 : (0 : Int) ≤ ((n : Nat) : Int) := by omega
  have k1 : ((n : Nat) : Int) ≤ (n : Int) := by omega
  have k2 : n ≤ n := by omega
  clear hN hr
  go_enter Tryd.func59, Tryd.ntmps59
  go_wp2_with fail
  go_region_held (fun w' => w'.cell? ⟨g, 0, none⟩ = some (.slice (some a) n n) ∧ w'.cell? ⟨g, 1, none⟩ = some (.int .i64 ((n : Nat) : Int)))
    (exact ⟨c0, c1⟩)
    (first
      | (go_at_call 58; refine Calls.mono (unhide HN) ?_; rintro e wx ⟨rfl, rfl⟩))
  go_wp2_with fail
  go_quiet (fail)
  go_wp2_with fail
  go_ret
  exact RbR.no (unhide HR0 _) (Only.set (p := fun x => x = g) ((Only.refl _ w).drewN _) g 2 _ rfl)
set_option maxHeartbeats 2000000 in
theorem rbytes_mid (g : Nat) (a : Addr) (n cap k most : Nat) (z : Int) (w : World) (hr : RRd w g (.slice (some a) n cap) k 0) (hz : ¬ z = 0) (hn : n ≤ 1000000000) (hk : k ≤ n) (hc : n ≤ cap) (hck : ¬ cap = k) (hN : Calls Tryd.prog 58 #[.slice (some (a.add k)) (n - k) (cap - k)] w.drew fun e w' => e = .returned (.tuple #[.int .i64 0, .int .i64 z]) ∧ w.drew = w') :
    Calls Tryd.prog 59 #[.pointer (some ⟨g, 0, none⟩), .int .i64 (most : Int)] w fun r w' => RbR ([], k, z) w g (.slice (some a) n cap) r w' := by
  have c0 : w.cell? ⟨g, 0, none⟩ = some (.slice (some a) n cap) := RowAt.cell hr 0
  have c1 : w.cell? ⟨g, 1, none⟩ = some (.int .i64 ((k : Nat) : Int)) := RowAt.cell hr 1
  have c2 : w.cell? ⟨g, 2, none⟩ = some (.int .i64 0) := RowAt.cell hr 2
  have z2 := RowAt.frozen hr 2
  have HN := hide hN
  have hzb : (z != 0) = true := by simp [hz]
  have hze : (z == 0) = false := by simp [hz]
  have HR0 : Hid (∀ q, RRd ((w.drewN q).setCell ⟨g, 2, none⟩ (.int .i64 z)) g (.slice (some a) n cap) k z) := hide (fun q => RowAt.set (RowAt.drewN hr q) 2 (.int .i64 z))
  have k0 : (0 : Int) ≤ ((k : Nat) : Int) := by omega
  have k1 : ((k : Nat) : Int) ≤ (n : Int) := by omega
  have k2 : k ≤ n := by omega
  clear hN hr
  go_enter Tryd.func59, Tryd.ntmps59
  go_wp2_with fail
  go_region_held (fun w' => w'.cell? ⟨g, 0, none⟩ = some (.slice (some a) n cap) ∧ w'.cell? ⟨g, 1, none⟩ = some (.int .i64 ((k : Nat) : Int)))
    (exact ⟨c0, c1⟩)
    (first
      | (go_at_call 58; refine Calls.mono (unhide HN) ?_; rintro e wx ⟨rfl, rfl⟩))
  go_wp2_with fail
  go_quiet (fail)
  go_wp2_with fail
  go_ret
  exact RbR.no (unhide HR0 _) (Only.set (p := fun x => x = g) ((Only.refl _ w).drewN _) g 2 _ rfl)
set_option maxHeartbeats 2000000 in
theorem rbytes_no4 (g : Nat) (a : Addr) (n cap k most u : Nat) (w : World) (hr : RRd w g (.slice (some a) n cap) k 0) (hn : n ≤ 1000000000) (hk : k + 8 ≤ n) (hc : n ≤ cap) (hu : u ≤ 9223372036854775807) (hb : most < u) (hN : Calls Tryd.prog 58 #[.slice (some (a.add k)) (n - k) (cap - k)] w.drew fun e w' => e = .returned (.tuple #[.int .i64 (u : Int), .int .i64 0]) ∧ w.drew = w') :
    Calls Tryd.prog 59 #[.pointer (some ⟨g, 0, none⟩), .int .i64 (most : Int)] w fun r w' => RbR ([], k, 4) w g (.slice (some a) n cap) r w' := by
  have c0 : w.cell? ⟨g, 0, none⟩ = some (.slice (some a) n cap) := RowAt.cell hr 0
  have c1 : w.cell? ⟨g, 1, none⟩ = some (.int .i64 (k : Int)) := RowAt.cell hr 1
  have c2 : w.cell? ⟨g, 2, none⟩ = some (.int .i64 0) := RowAt.cell hr 2
  have z2 := RowAt.frozen hr 2
  have HN := hide hN
  have HR0 : Hid (∀ q, RRd ((w.drewN q).setCell ⟨g, 2, none⟩ (.int .i64 4)) g (.slice (some a) n cap) k 4) := hide (fun q => RowAt.set (RowAt.drewN hr q) 2 (.int .i64 4))
  have k0 : (0 : Int) ≤ (k : Int) := by omega
  have k1 : (k : Int) ≤ (n : Int) := by omega
  have k2 : k ≤ n := by omega
  have k3 : ¬ cap = k := by omega
  have e1 : wrap64 ((n : Int) - (k : Int)) = (n : Int) - (k : Int) := by unfold wrap64; omega
  have e2 : wrap64 ((n : Int) - (k : Int) - 8) = (n : Int) - (k : Int) - 8 := by unfold wrap64; omega
  have q1 : (0 : Int) < (u : Int) := by omega
  have q1d : decide ((0 : Int) < (u : Int)) = true := by simpa using q1
  have q2 : (most : Int) < (u : Int) := by omega
  have q2d : decide ((most : Int) < (u : Int)) = true := by simpa using q2
  clear hN hr
  go_enter Tryd.func59, Tryd.ntmps59
  go_wp2_with fail
  go_region_held (fun w' => w'.cell? ⟨g, 0, none⟩ = some (.slice (some a) n cap) ∧ w'.cell? ⟨g, 1, none⟩ = some (.int .i64 (k : Int)))
    (exact ⟨c0, c1⟩)
    (first
      | (go_at_call 58; refine Calls.mono (unhide HN) ?_; rintro e wx ⟨rfl, rfl⟩))
  go_wp2_with fail
  go_quiet (fail)
  go_wp2_with fail
  go_ret
  exact RbR.no (unhide HR0 _) (Only.set (p := fun x => x = g) ((Only.refl _ w).drewN _) g 2 _ rfl)
set_option maxHeartbeats 2000000 in
theorem rbytes_no2 (g : Nat) (a : Addr) (n cap k most u : Nat) (w : World) (hr : RRd w g (.slice (some a) n cap) k 0) (hn : n ≤ 1000000000) (hk : k + 8 ≤ n) (hc : n ≤ cap) (hu : u ≤ 9223372036854775807) (hm : u ≤ most) (hb : n < k + 8 + u) (hN : Calls Tryd.prog 58 #[.slice (some (a.add k)) (n - k) (cap - k)] w.drew fun e w' => e = .returned (.tuple #[.int .i64 (u : Int), .int .i64 0]) ∧ w.drew = w') :
    Calls Tryd.prog 59 #[.pointer (some ⟨g, 0, none⟩), .int .i64 (most : Int)] w fun r w' => RbR ([], k, 2) w g (.slice (some a) n cap) r w' := by
  have c0 : w.cell? ⟨g, 0, none⟩ = some (.slice (some a) n cap) := RowAt.cell hr 0
  have c1 : w.cell? ⟨g, 1, none⟩ = some (.int .i64 (k : Int)) := RowAt.cell hr 1
  have c2 : w.cell? ⟨g, 2, none⟩ = some (.int .i64 0) := RowAt.cell hr 2
  have z2 := RowAt.frozen hr 2
  have HN := hide hN
  have HR0 : Hid (∀ q, RRd ((w.drewN q).setCell ⟨g, 2, none⟩ (.int .i64 2)) g (.slice (some a) n cap) k 2) := hide (fun q => RowAt.set (RowAt.drewN hr q) 2 (.int .i64 2))
  have k0 : (0 : Int) ≤ (k : Int) := by omega
  have k1 : (k : Int) ≤ (n : Int) := by omega
  have k2 : k ≤ n := by omega
  have k3 : ¬ cap = k := by omega
  have e1 : wrap64 ((n : Int) - (k : Int)) = (n : Int) - (k : Int) := by unfold wrap64; omega
  have e2 : wrap64 ((n : Int) - (k : Int) - 8) = (n : Int) - (k : Int) - 8 := by unfold wrap64; omega
  have q2 : ¬ (most : Int) < (u : Int) := by omega
  have q2d : decide ((most : Int) < (u : Int)) = false := by simpa using q2
  have q3 : (n : Int) - (k : Int) - 8 < (u : Int) := by omega
  have q3d : decide ((n : Int) - (k : Int) - 8 < (u : Int)) = true := by simpa using q3
  have q1 : (0 : Int) < (u : Int) := by omega
  have q1d : decide ((0 : Int) < (u : Int)) = true := by simpa using q1
  clear hN hr
  go_enter Tryd.func59, Tryd.ntmps59
  go_wp2_with fail
  go_region_held (fun w' => w'.cell? ⟨g, 0, none⟩ = some (.slice (some a) n cap) ∧ w'.cell? ⟨g, 1, none⟩ = some (.int .i64 (k : Int)))
    (exact ⟨c0, c1⟩)
    (first
      | (go_at_call 58; refine Calls.mono (unhide HN) ?_; rintro e wx ⟨rfl, rfl⟩))
  go_wp2_with fail
  go_quiet (fail)
  go_wp2_with fail
  go_ret
  exact RbR.no (unhide HR0 _) (Only.set (p := fun x => x = g) ((Only.refl _ w).drewN _) g 2 _ rfl)
set_option maxHeartbeats 4000000 in
theorem rbytes_ok (g : Nat) (a : Addr) (n cap k most u : Nat) (l : List Nat) (w : World) (hv : Byt w (.slice (some a) n cap) l) (hgl : ∀ (b : Nat), a.block = b → 0 < n → b ≠ g) (hr : RRd w g (.slice (some a) n cap) k 0) (hn : n ≤ 1000000000) (hk : k + 8 + u ≤ n) (hm : u ≤ most) (hN : Calls Tryd.prog 58 #[.slice (some (a.add k)) (n - k) (cap - k)] w.drew fun e w' => e = .returned (.tuple #[.int .i64 (u : Int), .int .i64 0]) ∧ w.drew = w') :
    Calls Tryd.prog 59 #[.pointer (some ⟨g, 0, none⟩), .int .i64 (most : Int)] w fun r w' => RbR ((l.drop (k + 8)).take u, k + 8 + u, 0) w g (.slice (some a) n cap) r w' := by
  have hc := (Oc.byt_cap (show Oc.Byt w (.slice (some a) n cap) l from hv)).2.2
  have c0 : w.cell? ⟨g, 0, none⟩ = some (.slice (some a) n cap) := RowAt.cell hr 0
  have c1 : w.cell? ⟨g, 1, none⟩ = some (.int .i64 (k : Int)) := RowAt.cell hr 1
  have c2 : w.cell? ⟨g, 2, none⟩ = some (.int .i64 0) := RowAt.cell hr 2
  have z1 := RowAt.frozen hr 1
  have HN := hide hN
  have HR := hide hr
  have HV := hide hv
  have HGL := hide hgl
  have k0 : (0 : Int) ≤ (k : Int) := by omega
  have k1 : (k : Int) ≤ (n : Int) := by omega
  have k2 : k ≤ n := by omega
  have k3 : ¬ cap = k := by omega
  have e1 : wrap64 ((n : Int) - (k : Int)) = (n : Int) - (k : Int) := by unfold wrap64; omega
  have e2 : wrap64 ((n : Int) - (k : Int) - 8) = (n : Int) - (k : Int) - 8 := by unfold wrap64; omega
  have e3 : wrap64 ((k : Int) + 8) = (k : Int) + 8 := by unfold wrap64; omega
  have e4 : wrap64 ((k : Int) + 8 + (u : Int)) = (k : Int) + 8 + (u : Int) := by unfold wrap64; omega
  have q2 : ¬ (most : Int) < (u : Int) := by omega
  have q2d : decide ((most : Int) < (u : Int)) = false := by simpa using q2
  have q3 : ¬ (n : Int) - (k : Int) - 8 < (u : Int) := by omega
  have q3d : decide ((n : Int) - (k : Int) - 8 < (u : Int)) = false := by simpa using q3
  clear hN hr hv hgl
  go_enter Tryd.func59, Tryd.ntmps59
  go_wp2_with fail
  go_region_held (fun w' => w'.cell? ⟨g, 0, none⟩ = some (.slice (some a) n cap) ∧ w'.cell? ⟨g, 1, none⟩ = some (.int .i64 (k : Int)))
    (exact ⟨c0, c1⟩)
    (first
      | (go_at_call 58; refine Calls.mono (unhide HN) ?_; rintro e wx ⟨rfl, rfl⟩))
  by_cases hu0 : 0 < u
  · have q1 : (0 : Int) < (u : Int) := by omega
    have q1d : decide ((0 : Int) < (u : Int)) = true := by simpa using q1
    have j1 : ¬ cap = k + 8 := by omega
    have j2 : k + 8 ≤ n := by omega
    have j3 : k + 8 + u ≤ n := hk
    have j4 : (k : Int) + 8 + (u : Int) ≤ (cap : Int) := by omega
    have j5 : ((k : Int) + 8).toNat = k + 8 := by omega
    have j6 : ((k : Int) + 8 + (u : Int)).toNat = k + 8 + u := by omega
    go_wp2_with fail
    go_quiet (fail)
    go_wp2_with fail
    have HR2 : Hid (RowAt ((w.drewN (1 + nq)).setCell ⟨g, 1, none⟩ (.int .i64 ((k : Int) + 8 + (u : Int)))) g 69 [.slice (some a) n cap, .int .i64 ((k : Int) + 8 + (u : Int)), .int .i64 0]) := hide (RowAt.set (RowAt.drewN (unhide HR) (1 + nq)) 1 (.int .i64 ((k : Int) + 8 + (u : Int))))
    have HO2 : Hid (Only (fun x => x = g) w ((w.drewN (1 + nq)).setCell ⟨g, 1, none⟩ (.int .i64 ((k : Int) + 8 + (u : Int))))) := hide (Only.set (p := fun x => x = g) ((Only.refl _ w).drewN _) g 1 _ rfl)
    obtain ⟨W2, hW2⟩ : ∃ z, (w.drewN (1 + nq)).setCell ⟨g, 1, none⟩ (.int .i64 ((k : Int) + 8 + (u : Int))) = z := ⟨_, rfl⟩
    rw [hW2] at HR2 HO2 ⊢
    clear hW2
    have HV2 : Hid (Byt W2 (.slice (some a) n cap) l) := hide ((unhide HO2).byt' (unhide HV) (fun hne => by
      intro kk hkk h
      have hk2 : a.block = kk := Option.some.inj (show some a.block = some kk from hkk)
      exact unhide HGL kk hk2 (by
        have hll := (Oc.byt_cap (show Oc.Byt w (.slice (some a) n cap) l from unhide HV)).2.1
        have := List.length_pos_iff.2 hne
        omega) h))
    have HX2 : Hid (Byt W2 (.slice (some (a.add (k + 8))) u (cap - (k + 8))) ((l.drop (k + 8)).take u)) := hide (((unhide HV2).drop (k + 8) (by omega)).take u (by omega))
    have HSS : Hid (∀ W, Below W2.heap.size W2 W → W.cell? ⟨g, 0, none⟩ = some (.slice (some a) n cap) ∧ W.cell? ⟨g, 1, none⟩ = some (.int .i64 ((k : Int) + 8 + (u : Int)))) := hide (fun W hW => ⟨((unhide HR2).below hW (unhide HR2).lt).cell 0, ((unhide HR2).below hW (unhide HR2).lt).cell 1⟩)
    refine Ed.wp_region_T (S := fun W => W.cell? ⟨g, 0, none⟩ = some (.slice (some a) n cap) ∧ W.cell? ⟨g, 1, none⟩ = some (.int .i64 ((k : Int) + 8 + (u : Int)))) (fun i => decide (i < 13)) (by kernel_rfl) (unhide HSS _ (Below.refl _ _).drew) (fun hHeld => ?_)
    obtain ⟨wd, hwd⟩ : ∃ z, W2.drew = z := ⟨_, rfl⟩
    have hbd : Below W2.heap.size W2 wd := by rw [← hwd]; exact (Below.refl _ _).drew
    have HBD := hide hbd
    rw [hwd] at hHeld ⊢
    clear hwd hbd
    refine Ed.wpAnyT_take (i := 1) (oi := { dst := some 72, op := Op.move (Operand.tmp 0), type := 67, pos := "ref.go:130", after := #[], guard := none }) (v := .pointer (some ⟨g, 0, none⟩)) rfl (by kernel_rfl) (by kernel_rfl) (by kernel_rfl) (by kernel_rfl) (fun _ _ _ h => h) (Or.inl ⟨by rfl, ?_⟩) hHeld ?_
    · intro w hSw
      obtain ⟨s0, s1⟩ := hSw
      first
        | rfl
        | (go_simp; done)
    try simp only [Act.put, List.setIfInBounds_toArray, List.set_cons_zero, List.set_cons_succ]
    refine Ed.wpAnyT_take (i := 2) (oi := { dst := some 73, op := Op.nilCheck (Operand.tmp 72), type := 0, pos := "ref.go:130", after := #[{ on := 1, ground := Ground.data }], guard := none }) (v := .pointer (some ⟨g, 0, none⟩)) rfl (by kernel_rfl) (by kernel_rfl) (by kernel_rfl) (by kernel_rfl) (fun _ _ _ h => h) (Or.inl ⟨by rfl, ?_⟩) hHeld ?_
    · intro w hSw
      obtain ⟨s0, s1⟩ := hSw
      first
        | rfl
        | (go_simp; done)
    try simp only [Act.put, List.setIfInBounds_toArray, List.set_cons_zero, List.set_cons_succ]
    refine Ed.wpAnyT_take (i := 3) (oi := { dst := some 74, op := Op.fieldAddr 69 (Operand.tmp 73) 0, type := 0, pos := "ref.go:130", after := #[{ on := 2, ground := Ground.data }], guard := none }) (v := .pointer (some ⟨g, 0, none⟩)) rfl (by kernel_rfl) (by kernel_rfl) (by kernel_rfl) (by kernel_rfl) (fun _ _ _ h => h) (Or.inl ⟨by rfl, ?_⟩) hHeld ?_
    · intro w hSw
      obtain ⟨s0, s1⟩ := hSw
      first
        | rfl
        | (go_simp; done)
    try simp only [Act.put, List.setIfInBounds_toArray, List.set_cons_zero, List.set_cons_succ]
    refine Ed.wpAnyT_take (i := 4) (oi := { dst := some 75, op := Op.load 30 (Operand.tmp 74), type := 30, pos := "ref.go:130", after := #[{ on := 3, ground := Ground.data }], guard := none }) (v := .slice (some a) n cap) rfl (by kernel_rfl) (by kernel_rfl) (by kernel_rfl) (by kernel_rfl) (fun _ _ _ h => h) (Or.inl ⟨by rfl, ?_⟩) hHeld ?_
    · intro w hSw
      obtain ⟨s0, s1⟩ := hSw
      first
        | rfl
        | (go_simp; done)
    try simp only [Act.put, List.setIfInBounds_toArray, List.set_cons_zero, List.set_cons_succ]
    refine Ed.wpAnyT_take (i := 5) (oi := { dst := some 76, op := Op.move (Operand.tmp 7), type := 3, pos := "ref.go:130", after := #[], guard := none }) (v := .int .i64 ((k : Int) + 8)) rfl (by kernel_rfl) (by kernel_rfl) (by kernel_rfl) (by kernel_rfl) (fun _ _ _ h => h) (Or.inl ⟨by rfl, ?_⟩) hHeld ?_
    · intro w hSw
      obtain ⟨s0, s1⟩ := hSw
      first
        | rfl
        | (go_simp; done)
    try simp only [Act.put, List.setIfInBounds_toArray, List.set_cons_zero, List.set_cons_succ]
    refine Ed.wpAnyT_take (i := 6) (oi := { dst := some 77, op := Op.move (Operand.tmp 0), type := 67, pos := "ref.go:130", after := #[], guard := none }) (v := .pointer (some ⟨g, 0, none⟩)) rfl (by kernel_rfl) (by kernel_rfl) (by kernel_rfl) (by kernel_rfl) (fun _ _ _ h => h) (Or.inl ⟨by rfl, ?_⟩) hHeld ?_
    · intro w hSw
      obtain ⟨s0, s1⟩ := hSw
      first
        | rfl
        | (go_simp; done)
    try simp only [Act.put, List.setIfInBounds_toArray, List.set_cons_zero, List.set_cons_succ]
    refine Ed.wpAnyT_take (i := 7) (oi := { dst := some 78, op := Op.nilCheck (Operand.tmp 77), type := 0, pos := "ref.go:130", after := #[{ on := 6, ground := Ground.data }], guard := none }) (v := .pointer (some ⟨g, 0, none⟩)) rfl (by kernel_rfl) (by kernel_rfl) (by kernel_rfl) (by kernel_rfl) (fun _ _ _ h => h) (Or.inl ⟨by rfl, ?_⟩) hHeld ?_
    · intro w hSw
      obtain ⟨s0, s1⟩ := hSw
      first
        | rfl
        | (go_simp; done)
    try simp only [Act.put, List.setIfInBounds_toArray, List.set_cons_zero, List.set_cons_succ]
    refine Ed.wpAnyT_take (i := 8) (oi := { dst := some 79, op := Op.fieldAddr 69 (Operand.tmp 78) 1, type := 0, pos := "ref.go:130", after := #[{ on := 7, ground := Ground.data }], guard := none }) (v := .pointer (some ⟨g, 1, none⟩)) rfl (by kernel_rfl) (by kernel_rfl) (by kernel_rfl) (by kernel_rfl) (fun _ _ _ h => h) (Or.inl ⟨by rfl, ?_⟩) hHeld ?_
    · intro w hSw
      obtain ⟨s0, s1⟩ := hSw
      first
        | rfl
        | (go_simp; done)
    try simp only [Act.put, List.setIfInBounds_toArray, List.set_cons_zero, List.set_cons_succ]
    refine Ed.wpAnyT_take (i := 9) (oi := { dst := some 80, op := Op.load 3 (Operand.tmp 79), type := 3, pos := "ref.go:130", after := #[{ on := 8, ground := Ground.data }], guard := none }) (v := .int .i64 ((k : Int) + 8 + (u : Int))) rfl (by kernel_rfl) (by kernel_rfl) (by kernel_rfl) (by kernel_rfl) (fun _ _ _ h => h) (Or.inl ⟨by rfl, ?_⟩) hHeld ?_
    · intro w hSw
      obtain ⟨s0, s1⟩ := hSw
      first
        | rfl
        | (go_simp; done)
    try simp only [Act.put, List.setIfInBounds_toArray, List.set_cons_zero, List.set_cons_succ]
    refine Ed.wpAnyT_take (i := 10) (oi := { dst := some 81, op := Op.slice 30 (Operand.tmp 75) (some (Operand.tmp 76)) (some (Operand.tmp 80)) none, type := 30, pos := "ref.go:130", after := #[{ on := 4, ground := Ground.data }, { on := 5, ground := Ground.data }, { on := 9, ground := Ground.data }], guard := none }) (v := .slice (some (a.add (k + 8))) u (cap - (k + 8))) rfl (by kernel_rfl) (by kernel_rfl) (by kernel_rfl) (by kernel_rfl) (fun _ _ _ h => h) (Or.inl ⟨by rfl, ?_⟩) hHeld ?_
    · intro w hSw
      obtain ⟨s0, s1⟩ := hSw
      first
        | rfl
        | (go_simp; done)
        | (go_simp; rw [if_pos (by omega), if_pos (by omega)]; done)
        | (go_simp; rw [if_pos (by omega)]; done)
        | (go_simp; rw [if_pos (by omega), if_pos (by omega)]; simp; done)
    try simp only [Act.put, List.setIfInBounds_toArray, List.set_cons_zero, List.set_cons_succ]
    refine Ed.wpAnyT_one (i := 0) (o := { dst := some 71, op := Op.buildSlice 30 0 #[], type := 30, pos := "ref.go:130", after := #[], guard := none }) (by kernel_rfl) rfl (fun K hK => ?_)
    go_simp
    have hbE : Below wd.heap.size wd (wd.alloc (.cells #[] 5)) := (Below.refl _ _).alloc (Nat.le_refl _) _
    have HRE := hide (RowAt.new wd 5 [])
    have HBE := hide ((unhide HBD).trans (hbE.mono (unhide HBD).size))
    have HGX : Hid (W2.heap.size ≤ wd.heap.size) := hide (unhide HBD).size
    have HGE : Hid (w.heap.size ≤ wd.heap.size) := hide (Nat.le_trans (unhide HO2).size (unhide HBD).size)
    clear hbE
    obtain ⟨wE, hE⟩ : ∃ z, wd.alloc (.cells #[] 5) = z := ⟨_, rfl⟩
    obtain ⟨gE, hgE⟩ : ∃ z, wd.heap.size = z := ⟨_, rfl⟩
    rw [show wd.alloc (.cells ([] : List Value).toArray 5) = wE from hE] at HRE
    rw [hE] at HBE ⊢
    rw [hgE] at HRE HGE HGX ⊢
    clear hE hgE
    refine hK.out _ _ (fun _ => unhide HSS _ (unhide HBE)) ?_
    clear hK K
    try simp only [Act.put, List.setIfInBounds_toArray, List.set_cons_zero, List.set_cons_succ]
    refine Ed.wpAnyT_one (i := 11) (o := { dst := some 82, op := Op.call { callee := Callee.builtin Builtin.append, args := #[Operand.tmp 71, Operand.tmp 81], argTypes := #[30, 30] }, type := 30, pos := "ref.go:130", after := #[{ on := 0, ground := Ground.data }, { on := 10, ground := Ground.data }], guard := none }) (by kernel_rfl) rfl (fun K hK => ?_)
    obtain ⟨i0, hi, hz0, hz1, hz2⟩ := Go.info_parts info5
    have hsrc := byt_src ((unhide HX2).call (unhide HBE)) (by rw [List.length_take, List.length_drop, (Oc.byt_cap (show Oc.Byt w (.slice (some a) n cap) l from unhide HV)).2.1]; omega)
    have hown : wE.ownsRow w.heap.size 5 1 (.slice (some ⟨gE, 0, none⟩) 0 0) 0 [] := ⟨rfl, .inr ⟨gE, 0, #[], rfl, unhide HGE, unhide HRE, Nat.le_refl _, by decide, rfl, rfl⟩⟩
    refine wp_append_src wE (Operand.tmp 71) (Operand.tmp 81) 30 rfl w.heap.size 5 i0 (.int .u8 0) 1 1 Tryd.underlying30 hi hz0 hz1 hz2 rfl (by decide) _ 0 [] rfl hown (some (a.add (k + 8))) u (cap - (k + 8)) (bv ((l.drop (k + 8)).take u)) rfl (by rw [bv_len, Nat.mul_one]; rw [List.length_take, List.length_drop, (Oc.byt_cap (show Oc.Byt w (.slice (some a) n cap) l from unhide HV)).2.1]; omega) hsrc.1 hsrc.2 (bv_one _) ?c1 ?c2 ?c3 ?_
    case c1 => unfold maxLen; omega
    case c2 => omega
    case c3 => exact Nat.le_trans (unhide HO2).size (unhide HBE).size
    intro aH cH wH oH gH kH
    have HNE : Hid (∀ j, j < W2.heap.size → some j ≠ Value.ownBlock (.slice (some ⟨gE, 0, none⟩) 0 0)) := hide (fun j hj h => by have h2 : j = gE := Option.some.inj (show some j = some gE from h); have := unhide HGX; omega)
    have HBH : Hid (Only (fun x => x = g) w wH) := hide ((unhide HO2).trans (Only.of_below (p := fun x => x = g) (((unhide HBE)).trans ⟨gH.os, gH.tape, gH.output, gH.size, fun j hj => gH.block j (Nat.lt_of_lt_of_le hj (unhide HBE).size) (unhide HNE j hj)⟩)))
    have HSH : Hid (wH.cell? ⟨g, 0, none⟩ = some (.slice (some a) n cap) ∧ wH.cell? ⟨g, 1, none⟩ = some (.int .i64 ((k : Int) + 8 + (u : Int)))) := hide (by
      have hG := unhide HSS _ (unhide HBE)
      have e : wH.heap[g]? = wE.heap[g]? := gH.block g (Nat.lt_of_lt_of_le (unhide HR2).lt (unhide HBE).size) (unhide HNE g (unhide HR2).lt)
      unfold World.cell? at hG ⊢
      simp only [e]
      exact hG)
    have HRH : Hid (RowAt wH g 69 [.slice (some a) n cap, .int .i64 ((k : Int) + 8 + (u : Int)), .int .i64 0]) := hide (by
      have e : wH.heap[g]? = wE.heap[g]? := gH.block g (Nat.lt_of_lt_of_le (unhide HR2).lt (unhide HBE).size) (unhide HNE g (unhide HR2).lt)
      have h := (unhide HR2).below (unhide HBE) (unhide HR2).lt
      unfold RowAt at h ⊢
      rw [e]; exact h)
    have HOH := hide oH
    clear oH gH kH hsrc hown hi hz0 hz1 hz2
    refine hK.out _ _ (fun _ => unhide HSH) ?_
    clear hK K
    try simp only [Act.put, List.setIfInBounds_toArray, List.set_cons_zero, List.set_cons_succ]
    refine Ed.wpAnyT_take (i := 12) (oi := { dst := some 4, op := Op.assign (Operand.tmp 82), type := 30, pos := "ref.go:130", after := #[{ on := 11, ground := Ground.data }, { on := 11, ground := Ground.chain }, { on := 0, ground := Ground.phase }, { on := 1, ground := Ground.phase }, { on := 2, ground := Ground.phase }, { on := 3, ground := Ground.phase }, { on := 4, ground := Ground.phase }, { on := 5, ground := Ground.phase }, { on := 6, ground := Ground.phase }, { on := 7, ground := Ground.phase }, { on := 8, ground := Ground.phase }, { on := 9, ground := Ground.phase }, { on := 10, ground := Ground.phase }, { on := 11, ground := Ground.phase }], guard := none }) (v := .slice aH (0 + u) cH) rfl (by kernel_rfl) (by kernel_rfl) (by kernel_rfl) (by kernel_rfl) (fun _ _ _ h => h) (Or.inl ⟨by rfl, ?_⟩) (unhide HSH) ?_
    · intro w hSw
      obtain ⟨s0, s1⟩ := hSw
      first
        | rfl
        | (go_simp; done)
    try simp only [Act.put, List.setIfInBounds_toArray, List.set_cons_zero, List.set_cons_succ]
    refine Ed.wpAnyT_done (by kernel_rfl) ?_ _
    go_wp2_with fail
    go_ret
    exact ⟨_, rfl, own_cast (unhide HOH) (by rw [List.length_take, List.length_drop, (Oc.byt_cap (show Oc.Byt w (.slice (some a) n cap) l from unhide HV)).2.1]; omega) rfl, by have h := unhide HRH; rw [show (k : Int) + 8 + (u : Int) = ((k + 8 + u : Nat) : Int) by omega] at h; exact h, unhide HBH⟩
  · obtain rfl : u = 0 := by omega
    have j2 : k + 8 ≤ n := by omega
    have j4 : (k : Int) + 8 ≤ (cap : Int) := by omega
    have j5 : ((k : Int) + 8).toNat = k + 8 := by omega
    go_wp2_with fail
    go_quiet (fail)
    go_wp2_with fail
    by_cases j1 : cap = k + 8
    · skip
      have HR2 : Hid (RowAt ((w.drewN (1 + nq)).setCell ⟨g, 1, none⟩ (.int .i64 ((k : Int) + 8))) g 69 [.slice (some a) n cap, .int .i64 ((k : Int) + 8), .int .i64 0]) := hide (RowAt.set (RowAt.drewN (unhide HR) (1 + nq)) 1 (.int .i64 ((k : Int) + 8)))
      have HO2 : Hid (Only (fun x => x = g) w ((w.drewN (1 + nq)).setCell ⟨g, 1, none⟩ (.int .i64 ((k : Int) + 8)))) := hide (Only.set (p := fun x => x = g) ((Only.refl _ w).drewN _) g 1 _ rfl)
      obtain ⟨W2, hW2⟩ : ∃ z, (w.drewN (1 + nq)).setCell ⟨g, 1, none⟩ (.int .i64 ((k : Int) + 8)) = z := ⟨_, rfl⟩
      rw [hW2] at HR2 HO2 ⊢
      clear hW2
      have HV2 : Hid (Byt W2 (.slice (some a) n cap) l) := hide ((unhide HO2).byt' (unhide HV) (fun hne => by
        intro kk hkk h
        have hk2 : a.block = kk := Option.some.inj (show some a.block = some kk from hkk)
        exact unhide HGL kk hk2 (by
          have hll := (Oc.byt_cap (show Oc.Byt w (.slice (some a) n cap) l from unhide HV)).2.1
          have := List.length_pos_iff.2 hne
          omega) h))
      have HX2 : Hid (Byt W2 (.slice (some a) 0 (0)) ([])) := hide (.inr ⟨a, 0, rfl, Nat.le_refl _, by decide, fun i y hy => by simp at hy⟩)
      have HSS : Hid (∀ W, Below W2.heap.size W2 W → W.cell? ⟨g, 0, none⟩ = some (.slice (some a) n cap) ∧ W.cell? ⟨g, 1, none⟩ = some (.int .i64 ((k : Int) + 8))) := hide (fun W hW => ⟨((unhide HR2).below hW (unhide HR2).lt).cell 0, ((unhide HR2).below hW (unhide HR2).lt).cell 1⟩)
      refine Ed.wp_region_T (S := fun W => W.cell? ⟨g, 0, none⟩ = some (.slice (some a) n cap) ∧ W.cell? ⟨g, 1, none⟩ = some (.int .i64 ((k : Int) + 8))) (fun i => decide (i < 13)) (by kernel_rfl) (unhide HSS _ (Below.refl _ _).drew) (fun hHeld => ?_)
      obtain ⟨wd, hwd⟩ : ∃ z, W2.drew = z := ⟨_, rfl⟩
      have hbd : Below W2.heap.size W2 wd := by rw [← hwd]; exact (Below.refl _ _).drew
      have HBD := hide hbd
      rw [hwd] at hHeld ⊢
      clear hwd hbd
      refine Ed.wpAnyT_take (i := 1) (oi := { dst := some 72, op := Op.move (Operand.tmp 0), type := 67, pos := "ref.go:130", after := #[], guard := none }) (v := .pointer (some ⟨g, 0, none⟩)) rfl (by kernel_rfl) (by kernel_rfl) (by kernel_rfl) (by kernel_rfl) (fun _ _ _ h => h) (Or.inl ⟨by rfl, ?_⟩) hHeld ?_
      · intro w hSw
        obtain ⟨s0, s1⟩ := hSw
        first
          | rfl
          | (go_simp; done)
      try simp only [Act.put, List.setIfInBounds_toArray, List.set_cons_zero, List.set_cons_succ]
      refine Ed.wpAnyT_take (i := 2) (oi := { dst := some 73, op := Op.nilCheck (Operand.tmp 72), type := 0, pos := "ref.go:130", after := #[{ on := 1, ground := Ground.data }], guard := none }) (v := .pointer (some ⟨g, 0, none⟩)) rfl (by kernel_rfl) (by kernel_rfl) (by kernel_rfl) (by kernel_rfl) (fun _ _ _ h => h) (Or.inl ⟨by rfl, ?_⟩) hHeld ?_
      · intro w hSw
        obtain ⟨s0, s1⟩ := hSw
        first
          | rfl
          | (go_simp; done)
      try simp only [Act.put, List.setIfInBounds_toArray, List.set_cons_zero, List.set_cons_succ]
      refine Ed.wpAnyT_take (i := 3) (oi := { dst := some 74, op := Op.fieldAddr 69 (Operand.tmp 73) 0, type := 0, pos := "ref.go:130", after := #[{ on := 2, ground := Ground.data }], guard := none }) (v := .pointer (some ⟨g, 0, none⟩)) rfl (by kernel_rfl) (by kernel_rfl) (by kernel_rfl) (by kernel_rfl) (fun _ _ _ h => h) (Or.inl ⟨by rfl, ?_⟩) hHeld ?_
      · intro w hSw
        obtain ⟨s0, s1⟩ := hSw
        first
          | rfl
          | (go_simp; done)
      try simp only [Act.put, List.setIfInBounds_toArray, List.set_cons_zero, List.set_cons_succ]
      refine Ed.wpAnyT_take (i := 4) (oi := { dst := some 75, op := Op.load 30 (Operand.tmp 74), type := 30, pos := "ref.go:130", after := #[{ on := 3, ground := Ground.data }], guard := none }) (v := .slice (some a) n cap) rfl (by kernel_rfl) (by kernel_rfl) (by kernel_rfl) (by kernel_rfl) (fun _ _ _ h => h) (Or.inl ⟨by rfl, ?_⟩) hHeld ?_
      · intro w hSw
        obtain ⟨s0, s1⟩ := hSw
        first
          | rfl
          | (go_simp; done)
      try simp only [Act.put, List.setIfInBounds_toArray, List.set_cons_zero, List.set_cons_succ]
      refine Ed.wpAnyT_take (i := 5) (oi := { dst := some 76, op := Op.move (Operand.tmp 7), type := 3, pos := "ref.go:130", after := #[], guard := none }) (v := .int .i64 ((k : Int) + 8)) rfl (by kernel_rfl) (by kernel_rfl) (by kernel_rfl) (by kernel_rfl) (fun _ _ _ h => h) (Or.inl ⟨by rfl, ?_⟩) hHeld ?_
      · intro w hSw
        obtain ⟨s0, s1⟩ := hSw
        first
          | rfl
          | (go_simp; done)
      try simp only [Act.put, List.setIfInBounds_toArray, List.set_cons_zero, List.set_cons_succ]
      refine Ed.wpAnyT_take (i := 6) (oi := { dst := some 77, op := Op.move (Operand.tmp 0), type := 67, pos := "ref.go:130", after := #[], guard := none }) (v := .pointer (some ⟨g, 0, none⟩)) rfl (by kernel_rfl) (by kernel_rfl) (by kernel_rfl) (by kernel_rfl) (fun _ _ _ h => h) (Or.inl ⟨by rfl, ?_⟩) hHeld ?_
      · intro w hSw
        obtain ⟨s0, s1⟩ := hSw
        first
          | rfl
          | (go_simp; done)
      try simp only [Act.put, List.setIfInBounds_toArray, List.set_cons_zero, List.set_cons_succ]
      refine Ed.wpAnyT_take (i := 7) (oi := { dst := some 78, op := Op.nilCheck (Operand.tmp 77), type := 0, pos := "ref.go:130", after := #[{ on := 6, ground := Ground.data }], guard := none }) (v := .pointer (some ⟨g, 0, none⟩)) rfl (by kernel_rfl) (by kernel_rfl) (by kernel_rfl) (by kernel_rfl) (fun _ _ _ h => h) (Or.inl ⟨by rfl, ?_⟩) hHeld ?_
      · intro w hSw
        obtain ⟨s0, s1⟩ := hSw
        first
          | rfl
          | (go_simp; done)
      try simp only [Act.put, List.setIfInBounds_toArray, List.set_cons_zero, List.set_cons_succ]
      refine Ed.wpAnyT_take (i := 8) (oi := { dst := some 79, op := Op.fieldAddr 69 (Operand.tmp 78) 1, type := 0, pos := "ref.go:130", after := #[{ on := 7, ground := Ground.data }], guard := none }) (v := .pointer (some ⟨g, 1, none⟩)) rfl (by kernel_rfl) (by kernel_rfl) (by kernel_rfl) (by kernel_rfl) (fun _ _ _ h => h) (Or.inl ⟨by rfl, ?_⟩) hHeld ?_
      · intro w hSw
        obtain ⟨s0, s1⟩ := hSw
        first
          | rfl
          | (go_simp; done)
      try simp only [Act.put, List.setIfInBounds_toArray, List.set_cons_zero, List.set_cons_succ]
      refine Ed.wpAnyT_take (i := 9) (oi := { dst := some 80, op := Op.load 3 (Operand.tmp 79), type := 3, pos := "ref.go:130", after := #[{ on := 8, ground := Ground.data }], guard := none }) (v := .int .i64 ((k : Int) + 8)) rfl (by kernel_rfl) (by kernel_rfl) (by kernel_rfl) (by kernel_rfl) (fun _ _ _ h => h) (Or.inl ⟨by rfl, ?_⟩) hHeld ?_
      · intro w hSw
        obtain ⟨s0, s1⟩ := hSw
        first
          | rfl
          | (go_simp; done)
      try simp only [Act.put, List.setIfInBounds_toArray, List.set_cons_zero, List.set_cons_succ]
      refine Ed.wpAnyT_take (i := 10) (oi := { dst := some 81, op := Op.slice 30 (Operand.tmp 75) (some (Operand.tmp 76)) (some (Operand.tmp 80)) none, type := 30, pos := "ref.go:130", after := #[{ on := 4, ground := Ground.data }, { on := 5, ground := Ground.data }, { on := 9, ground := Ground.data }], guard := none }) (v := .slice (some a) 0 (0)) rfl (by kernel_rfl) (by kernel_rfl) (by kernel_rfl) (by kernel_rfl) (fun _ _ _ h => h) (Or.inl ⟨by rfl, ?_⟩) hHeld ?_
      · intro w hSw
        obtain ⟨s0, s1⟩ := hSw
        first
          | rfl
          | (go_simp; done)
          | (go_simp; rw [if_pos (by omega), if_pos (by omega)]; done)
          | (go_simp; rw [if_pos (by omega)]; done)
          | (go_simp; rw [if_pos (by omega), if_pos (by omega)]; simp; done)
      try simp only [Act.put, List.setIfInBounds_toArray, List.set_cons_zero, List.set_cons_succ]
      refine Ed.wpAnyT_one (i := 0) (o := { dst := some 71, op := Op.buildSlice 30 0 #[], type := 30, pos := "ref.go:130", after := #[], guard := none }) (by kernel_rfl) rfl (fun K hK => ?_)
      go_simp
      have hbE : Below wd.heap.size wd (wd.alloc (.cells #[] 5)) := (Below.refl _ _).alloc (Nat.le_refl _) _
      have HRE := hide (RowAt.new wd 5 [])
      have HBE := hide ((unhide HBD).trans (hbE.mono (unhide HBD).size))
      have HGX : Hid (W2.heap.size ≤ wd.heap.size) := hide (unhide HBD).size
      have HGE : Hid (w.heap.size ≤ wd.heap.size) := hide (Nat.le_trans (unhide HO2).size (unhide HBD).size)
      clear hbE
      obtain ⟨wE, hE⟩ : ∃ z, wd.alloc (.cells #[] 5) = z := ⟨_, rfl⟩
      obtain ⟨gE, hgE⟩ : ∃ z, wd.heap.size = z := ⟨_, rfl⟩
      rw [show wd.alloc (.cells ([] : List Value).toArray 5) = wE from hE] at HRE
      rw [hE] at HBE ⊢
      rw [hgE] at HRE HGE HGX ⊢
      clear hE hgE
      refine hK.out _ _ (fun _ => unhide HSS _ (unhide HBE)) ?_
      clear hK K
      try simp only [Act.put, List.setIfInBounds_toArray, List.set_cons_zero, List.set_cons_succ]
      refine Ed.wpAnyT_one (i := 11) (o := { dst := some 82, op := Op.call { callee := Callee.builtin Builtin.append, args := #[Operand.tmp 71, Operand.tmp 81], argTypes := #[30, 30] }, type := 30, pos := "ref.go:130", after := #[{ on := 0, ground := Ground.data }, { on := 10, ground := Ground.data }], guard := none }) (by kernel_rfl) rfl (fun K hK => ?_)
      obtain ⟨i0, hi, hz0, hz1, hz2⟩ := Go.info_parts info5
      have hsrc := byt_src ((unhide HX2).call (unhide HBE)) (by rfl)
      have hown : wE.ownsRow w.heap.size 5 1 (.slice (some ⟨gE, 0, none⟩) 0 0) 0 [] := ⟨rfl, .inr ⟨gE, 0, #[], rfl, unhide HGE, unhide HRE, Nat.le_refl _, by decide, rfl, rfl⟩⟩
      refine wp_append_src wE (Operand.tmp 71) (Operand.tmp 81) 30 rfl w.heap.size 5 i0 (.int .u8 0) 1 1 Tryd.underlying30 hi hz0 hz1 hz2 rfl (by decide) _ 0 [] rfl hown (some a) 0 (0) (bv ([])) rfl (by rw [bv_len, Nat.mul_one]; rfl) hsrc.1 hsrc.2 (bv_one _) ?c1 ?c2 ?c3 ?_
      case c1 => unfold maxLen; omega
      case c2 => omega
      case c3 => exact Nat.le_trans (unhide HO2).size (unhide HBE).size
      intro aH cH wH oH gH kH
      have HNE : Hid (∀ j, j < W2.heap.size → some j ≠ Value.ownBlock (.slice (some ⟨gE, 0, none⟩) 0 0)) := hide (fun j hj h => by have h2 : j = gE := Option.some.inj (show some j = some gE from h); have := unhide HGX; omega)
      have HBH : Hid (Only (fun x => x = g) w wH) := hide ((unhide HO2).trans (Only.of_below (p := fun x => x = g) (((unhide HBE)).trans ⟨gH.os, gH.tape, gH.output, gH.size, fun j hj => gH.block j (Nat.lt_of_lt_of_le hj (unhide HBE).size) (unhide HNE j hj)⟩)))
      have HSH : Hid (wH.cell? ⟨g, 0, none⟩ = some (.slice (some a) n cap) ∧ wH.cell? ⟨g, 1, none⟩ = some (.int .i64 ((k : Int) + 8))) := hide (by
        have hG := unhide HSS _ (unhide HBE)
        have e : wH.heap[g]? = wE.heap[g]? := gH.block g (Nat.lt_of_lt_of_le (unhide HR2).lt (unhide HBE).size) (unhide HNE g (unhide HR2).lt)
        unfold World.cell? at hG ⊢
        simp only [e]
        exact hG)
      have HRH : Hid (RowAt wH g 69 [.slice (some a) n cap, .int .i64 ((k : Int) + 8), .int .i64 0]) := hide (by
        have e : wH.heap[g]? = wE.heap[g]? := gH.block g (Nat.lt_of_lt_of_le (unhide HR2).lt (unhide HBE).size) (unhide HNE g (unhide HR2).lt)
        have h := (unhide HR2).below (unhide HBE) (unhide HR2).lt
        unfold RowAt at h ⊢
        rw [e]; exact h)
      have HOH := hide oH
      clear oH gH kH hsrc hown hi hz0 hz1 hz2
      refine hK.out _ _ (fun _ => unhide HSH) ?_
      clear hK K
      try simp only [Act.put, List.setIfInBounds_toArray, List.set_cons_zero, List.set_cons_succ]
      refine Ed.wpAnyT_take (i := 12) (oi := { dst := some 4, op := Op.assign (Operand.tmp 82), type := 30, pos := "ref.go:130", after := #[{ on := 11, ground := Ground.data }, { on := 11, ground := Ground.chain }, { on := 0, ground := Ground.phase }, { on := 1, ground := Ground.phase }, { on := 2, ground := Ground.phase }, { on := 3, ground := Ground.phase }, { on := 4, ground := Ground.phase }, { on := 5, ground := Ground.phase }, { on := 6, ground := Ground.phase }, { on := 7, ground := Ground.phase }, { on := 8, ground := Ground.phase }, { on := 9, ground := Ground.phase }, { on := 10, ground := Ground.phase }, { on := 11, ground := Ground.phase }], guard := none }) (v := .slice aH (0 + 0) cH) rfl (by kernel_rfl) (by kernel_rfl) (by kernel_rfl) (by kernel_rfl) (fun _ _ _ h => h) (Or.inl ⟨by rfl, ?_⟩) (unhide HSH) ?_
      · intro w hSw
        obtain ⟨s0, s1⟩ := hSw
        first
          | rfl
          | (go_simp; done)
      try simp only [Act.put, List.setIfInBounds_toArray, List.set_cons_zero, List.set_cons_succ]
      refine Ed.wpAnyT_done (by kernel_rfl) ?_ _
      go_wp2_with fail
      go_ret
      exact ⟨_, rfl, own_cast (unhide HOH) (by simp) (by simp), by have h := unhide HRH; rw [show (k : Int) + 8 = ((k + 8 + 0 : Nat) : Int) by omega] at h; exact h, unhide HBH⟩
    · skip
      have HR2 : Hid (RowAt ((w.drewN (1 + nq)).setCell ⟨g, 1, none⟩ (.int .i64 ((k : Int) + 8))) g 69 [.slice (some a) n cap, .int .i64 ((k : Int) + 8), .int .i64 0]) := hide (RowAt.set (RowAt.drewN (unhide HR) (1 + nq)) 1 (.int .i64 ((k : Int) + 8)))
      have HO2 : Hid (Only (fun x => x = g) w ((w.drewN (1 + nq)).setCell ⟨g, 1, none⟩ (.int .i64 ((k : Int) + 8)))) := hide (Only.set (p := fun x => x = g) ((Only.refl _ w).drewN _) g 1 _ rfl)
      obtain ⟨W2, hW2⟩ : ∃ z, (w.drewN (1 + nq)).setCell ⟨g, 1, none⟩ (.int .i64 ((k : Int) + 8)) = z := ⟨_, rfl⟩
      rw [hW2] at HR2 HO2 ⊢
      clear hW2
      have HV2 : Hid (Byt W2 (.slice (some a) n cap) l) := hide ((unhide HO2).byt' (unhide HV) (fun hne => by
        intro kk hkk h
        have hk2 : a.block = kk := Option.some.inj (show some a.block = some kk from hkk)
        exact unhide HGL kk hk2 (by
          have hll := (Oc.byt_cap (show Oc.Byt w (.slice (some a) n cap) l from unhide HV)).2.1
          have := List.length_pos_iff.2 hne
          omega) h))
      have HX2 : Hid (Byt W2 (.slice (some (a.add (k + 8))) 0 (cap - (k + 8))) ([])) := hide (by have h := ((unhide HV2).drop (k + 8) (by omega)).take 0 (by omega); rw [List.take_zero] at h; exact h)
      have HSS : Hid (∀ W, Below W2.heap.size W2 W → W.cell? ⟨g, 0, none⟩ = some (.slice (some a) n cap) ∧ W.cell? ⟨g, 1, none⟩ = some (.int .i64 ((k : Int) + 8))) := hide (fun W hW => ⟨((unhide HR2).below hW (unhide HR2).lt).cell 0, ((unhide HR2).below hW (unhide HR2).lt).cell 1⟩)
      refine Ed.wp_region_T (S := fun W => W.cell? ⟨g, 0, none⟩ = some (.slice (some a) n cap) ∧ W.cell? ⟨g, 1, none⟩ = some (.int .i64 ((k : Int) + 8))) (fun i => decide (i < 13)) (by kernel_rfl) (unhide HSS _ (Below.refl _ _).drew) (fun hHeld => ?_)
      obtain ⟨wd, hwd⟩ : ∃ z, W2.drew = z := ⟨_, rfl⟩
      have hbd : Below W2.heap.size W2 wd := by rw [← hwd]; exact (Below.refl _ _).drew
      have HBD := hide hbd
      rw [hwd] at hHeld ⊢
      clear hwd hbd
      refine Ed.wpAnyT_take (i := 1) (oi := { dst := some 72, op := Op.move (Operand.tmp 0), type := 67, pos := "ref.go:130", after := #[], guard := none }) (v := .pointer (some ⟨g, 0, none⟩)) rfl (by kernel_rfl) (by kernel_rfl) (by kernel_rfl) (by kernel_rfl) (fun _ _ _ h => h) (Or.inl ⟨by rfl, ?_⟩) hHeld ?_
      · intro w hSw
        obtain ⟨s0, s1⟩ := hSw
        first
          | rfl
          | (go_simp; done)
      try simp only [Act.put, List.setIfInBounds_toArray, List.set_cons_zero, List.set_cons_succ]
      refine Ed.wpAnyT_take (i := 2) (oi := { dst := some 73, op := Op.nilCheck (Operand.tmp 72), type := 0, pos := "ref.go:130", after := #[{ on := 1, ground := Ground.data }], guard := none }) (v := .pointer (some ⟨g, 0, none⟩)) rfl (by kernel_rfl) (by kernel_rfl) (by kernel_rfl) (by kernel_rfl) (fun _ _ _ h => h) (Or.inl ⟨by rfl, ?_⟩) hHeld ?_
      · intro w hSw
        obtain ⟨s0, s1⟩ := hSw
        first
          | rfl
          | (go_simp; done)
      try simp only [Act.put, List.setIfInBounds_toArray, List.set_cons_zero, List.set_cons_succ]
      refine Ed.wpAnyT_take (i := 3) (oi := { dst := some 74, op := Op.fieldAddr 69 (Operand.tmp 73) 0, type := 0, pos := "ref.go:130", after := #[{ on := 2, ground := Ground.data }], guard := none }) (v := .pointer (some ⟨g, 0, none⟩)) rfl (by kernel_rfl) (by kernel_rfl) (by kernel_rfl) (by kernel_rfl) (fun _ _ _ h => h) (Or.inl ⟨by rfl, ?_⟩) hHeld ?_
      · intro w hSw
        obtain ⟨s0, s1⟩ := hSw
        first
          | rfl
          | (go_simp; done)
      try simp only [Act.put, List.setIfInBounds_toArray, List.set_cons_zero, List.set_cons_succ]
      refine Ed.wpAnyT_take (i := 4) (oi := { dst := some 75, op := Op.load 30 (Operand.tmp 74), type := 30, pos := "ref.go:130", after := #[{ on := 3, ground := Ground.data }], guard := none }) (v := .slice (some a) n cap) rfl (by kernel_rfl) (by kernel_rfl) (by kernel_rfl) (by kernel_rfl) (fun _ _ _ h => h) (Or.inl ⟨by rfl, ?_⟩) hHeld ?_
      · intro w hSw
        obtain ⟨s0, s1⟩ := hSw
        first
          | rfl
          | (go_simp; done)
      try simp only [Act.put, List.setIfInBounds_toArray, List.set_cons_zero, List.set_cons_succ]
      refine Ed.wpAnyT_take (i := 5) (oi := { dst := some 76, op := Op.move (Operand.tmp 7), type := 3, pos := "ref.go:130", after := #[], guard := none }) (v := .int .i64 ((k : Int) + 8)) rfl (by kernel_rfl) (by kernel_rfl) (by kernel_rfl) (by kernel_rfl) (fun _ _ _ h => h) (Or.inl ⟨by rfl, ?_⟩) hHeld ?_
      · intro w hSw
        obtain ⟨s0, s1⟩ := hSw
        first
          | rfl
          | (go_simp; done)
      try simp only [Act.put, List.setIfInBounds_toArray, List.set_cons_zero, List.set_cons_succ]
      refine Ed.wpAnyT_take (i := 6) (oi := { dst := some 77, op := Op.move (Operand.tmp 0), type := 67, pos := "ref.go:130", after := #[], guard := none }) (v := .pointer (some ⟨g, 0, none⟩)) rfl (by kernel_rfl) (by kernel_rfl) (by kernel_rfl) (by kernel_rfl) (fun _ _ _ h => h) (Or.inl ⟨by rfl, ?_⟩) hHeld ?_
      · intro w hSw
        obtain ⟨s0, s1⟩ := hSw
        first
          | rfl
          | (go_simp; done)
      try simp only [Act.put, List.setIfInBounds_toArray, List.set_cons_zero, List.set_cons_succ]
      refine Ed.wpAnyT_take (i := 7) (oi := { dst := some 78, op := Op.nilCheck (Operand.tmp 77), type := 0, pos := "ref.go:130", after := #[{ on := 6, ground := Ground.data }], guard := none }) (v := .pointer (some ⟨g, 0, none⟩)) rfl (by kernel_rfl) (by kernel_rfl) (by kernel_rfl) (by kernel_rfl) (fun _ _ _ h => h) (Or.inl ⟨by rfl, ?_⟩) hHeld ?_
      · intro w hSw
        obtain ⟨s0, s1⟩ := hSw
        first
          | rfl
          | (go_simp; done)
      try simp only [Act.put, List.setIfInBounds_toArray, List.set_cons_zero, List.set_cons_succ]
      refine Ed.wpAnyT_take (i := 8) (oi := { dst := some 79, op := Op.fieldAddr 69 (Operand.tmp 78) 1, type := 0, pos := "ref.go:130", after := #[{ on := 7, ground := Ground.data }], guard := none }) (v := .pointer (some ⟨g, 1, none⟩)) rfl (by kernel_rfl) (by kernel_rfl) (by kernel_rfl) (by kernel_rfl) (fun _ _ _ h => h) (Or.inl ⟨by rfl, ?_⟩) hHeld ?_
      · intro w hSw
        obtain ⟨s0, s1⟩ := hSw
        first
          | rfl
          | (go_simp; done)
      try simp only [Act.put, List.setIfInBounds_toArray, List.set_cons_zero, List.set_cons_succ]
      refine Ed.wpAnyT_take (i := 9) (oi := { dst := some 80, op := Op.load 3 (Operand.tmp 79), type := 3, pos := "ref.go:130", after := #[{ on := 8, ground := Ground.data }], guard := none }) (v := .int .i64 ((k : Int) + 8)) rfl (by kernel_rfl) (by kernel_rfl) (by kernel_rfl) (by kernel_rfl) (fun _ _ _ h => h) (Or.inl ⟨by rfl, ?_⟩) hHeld ?_
      · intro w hSw
        obtain ⟨s0, s1⟩ := hSw
        first
          | rfl
          | (go_simp; done)
      try simp only [Act.put, List.setIfInBounds_toArray, List.set_cons_zero, List.set_cons_succ]
      refine Ed.wpAnyT_take (i := 10) (oi := { dst := some 81, op := Op.slice 30 (Operand.tmp 75) (some (Operand.tmp 76)) (some (Operand.tmp 80)) none, type := 30, pos := "ref.go:130", after := #[{ on := 4, ground := Ground.data }, { on := 5, ground := Ground.data }, { on := 9, ground := Ground.data }], guard := none }) (v := .slice (some (a.add (k + 8))) 0 (cap - (k + 8))) rfl (by kernel_rfl) (by kernel_rfl) (by kernel_rfl) (by kernel_rfl) (fun _ _ _ h => h) (Or.inl ⟨by rfl, ?_⟩) hHeld ?_
      · intro w hSw
        obtain ⟨s0, s1⟩ := hSw
        first
          | rfl
          | (go_simp; done)
          | (go_simp; rw [if_pos (by omega), if_pos (by omega)]; done)
          | (go_simp; rw [if_pos (by omega)]; done)
          | (go_simp; rw [if_pos (by omega), if_pos (by omega)]; simp; done)
      try simp only [Act.put, List.setIfInBounds_toArray, List.set_cons_zero, List.set_cons_succ]
      refine Ed.wpAnyT_one (i := 0) (o := { dst := some 71, op := Op.buildSlice 30 0 #[], type := 30, pos := "ref.go:130", after := #[], guard := none }) (by kernel_rfl) rfl (fun K hK => ?_)
      go_simp
      have hbE : Below wd.heap.size wd (wd.alloc (.cells #[] 5)) := (Below.refl _ _).alloc (Nat.le_refl _) _
      have HRE := hide (RowAt.new wd 5 [])
      have HBE := hide ((unhide HBD).trans (hbE.mono (unhide HBD).size))
      have HGX : Hid (W2.heap.size ≤ wd.heap.size) := hide (unhide HBD).size
      have HGE : Hid (w.heap.size ≤ wd.heap.size) := hide (Nat.le_trans (unhide HO2).size (unhide HBD).size)
      clear hbE
      obtain ⟨wE, hE⟩ : ∃ z, wd.alloc (.cells #[] 5) = z := ⟨_, rfl⟩
      obtain ⟨gE, hgE⟩ : ∃ z, wd.heap.size = z := ⟨_, rfl⟩
      rw [show wd.alloc (.cells ([] : List Value).toArray 5) = wE from hE] at HRE
      rw [hE] at HBE ⊢
      rw [hgE] at HRE HGE HGX ⊢
      clear hE hgE
      refine hK.out _ _ (fun _ => unhide HSS _ (unhide HBE)) ?_
      clear hK K
      try simp only [Act.put, List.setIfInBounds_toArray, List.set_cons_zero, List.set_cons_succ]
      refine Ed.wpAnyT_one (i := 11) (o := { dst := some 82, op := Op.call { callee := Callee.builtin Builtin.append, args := #[Operand.tmp 71, Operand.tmp 81], argTypes := #[30, 30] }, type := 30, pos := "ref.go:130", after := #[{ on := 0, ground := Ground.data }, { on := 10, ground := Ground.data }], guard := none }) (by kernel_rfl) rfl (fun K hK => ?_)
      obtain ⟨i0, hi, hz0, hz1, hz2⟩ := Go.info_parts info5
      have hsrc := byt_src ((unhide HX2).call (unhide HBE)) (by rfl)
      have hown : wE.ownsRow w.heap.size 5 1 (.slice (some ⟨gE, 0, none⟩) 0 0) 0 [] := ⟨rfl, .inr ⟨gE, 0, #[], rfl, unhide HGE, unhide HRE, Nat.le_refl _, by decide, rfl, rfl⟩⟩
      refine wp_append_src wE (Operand.tmp 71) (Operand.tmp 81) 30 rfl w.heap.size 5 i0 (.int .u8 0) 1 1 Tryd.underlying30 hi hz0 hz1 hz2 rfl (by decide) _ 0 [] rfl hown (some (a.add (k + 8))) 0 (cap - (k + 8)) (bv ([])) rfl (by rw [bv_len, Nat.mul_one]; rfl) hsrc.1 hsrc.2 (bv_one _) ?c1 ?c2 ?c3 ?_
      case c1 => unfold maxLen; omega
      case c2 => omega
      case c3 => exact Nat.le_trans (unhide HO2).size (unhide HBE).size
      intro aH cH wH oH gH kH
      have HNE : Hid (∀ j, j < W2.heap.size → some j ≠ Value.ownBlock (.slice (some ⟨gE, 0, none⟩) 0 0)) := hide (fun j hj h => by have h2 : j = gE := Option.some.inj (show some j = some gE from h); have := unhide HGX; omega)
      have HBH : Hid (Only (fun x => x = g) w wH) := hide ((unhide HO2).trans (Only.of_below (p := fun x => x = g) (((unhide HBE)).trans ⟨gH.os, gH.tape, gH.output, gH.size, fun j hj => gH.block j (Nat.lt_of_lt_of_le hj (unhide HBE).size) (unhide HNE j hj)⟩)))
      have HSH : Hid (wH.cell? ⟨g, 0, none⟩ = some (.slice (some a) n cap) ∧ wH.cell? ⟨g, 1, none⟩ = some (.int .i64 ((k : Int) + 8))) := hide (by
        have hG := unhide HSS _ (unhide HBE)
        have e : wH.heap[g]? = wE.heap[g]? := gH.block g (Nat.lt_of_lt_of_le (unhide HR2).lt (unhide HBE).size) (unhide HNE g (unhide HR2).lt)
        unfold World.cell? at hG ⊢
        simp only [e]
        exact hG)
      have HRH : Hid (RowAt wH g 69 [.slice (some a) n cap, .int .i64 ((k : Int) + 8), .int .i64 0]) := hide (by
        have e : wH.heap[g]? = wE.heap[g]? := gH.block g (Nat.lt_of_lt_of_le (unhide HR2).lt (unhide HBE).size) (unhide HNE g (unhide HR2).lt)
        have h := (unhide HR2).below (unhide HBE) (unhide HR2).lt
        unfold RowAt at h ⊢
        rw [e]; exact h)
      have HOH := hide oH
      clear oH gH kH hsrc hown hi hz0 hz1 hz2
      refine hK.out _ _ (fun _ => unhide HSH) ?_
      clear hK K
      try simp only [Act.put, List.setIfInBounds_toArray, List.set_cons_zero, List.set_cons_succ]
      refine Ed.wpAnyT_take (i := 12) (oi := { dst := some 4, op := Op.assign (Operand.tmp 82), type := 30, pos := "ref.go:130", after := #[{ on := 11, ground := Ground.data }, { on := 11, ground := Ground.chain }, { on := 0, ground := Ground.phase }, { on := 1, ground := Ground.phase }, { on := 2, ground := Ground.phase }, { on := 3, ground := Ground.phase }, { on := 4, ground := Ground.phase }, { on := 5, ground := Ground.phase }, { on := 6, ground := Ground.phase }, { on := 7, ground := Ground.phase }, { on := 8, ground := Ground.phase }, { on := 9, ground := Ground.phase }, { on := 10, ground := Ground.phase }, { on := 11, ground := Ground.phase }], guard := none }) (v := .slice aH (0 + 0) cH) rfl (by kernel_rfl) (by kernel_rfl) (by kernel_rfl) (by kernel_rfl) (fun _ _ _ h => h) (Or.inl ⟨by rfl, ?_⟩) (unhide HSH) ?_
      · intro w hSw
        obtain ⟨s0, s1⟩ := hSw
        first
          | rfl
          | (go_simp; done)
      try simp only [Act.put, List.setIfInBounds_toArray, List.set_cons_zero, List.set_cons_succ]
      refine Ed.wpAnyT_done (by kernel_rfl) ?_ _
      go_wp2_with fail
      go_ret
      exact ⟨_, rfl, own_cast (unhide HOH) (by simp) (by simp), by have h := unhide HRH; rw [show (k : Int) + 8 = ((k + 8 + 0 : Nat) : Int) by omega] at h; exact h, unhide HBH⟩
end Go.Proofs.YtbnfilhilgjnfaaDoor
