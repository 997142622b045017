/- The cipher's words, stirred four at a time. -/
import Derived.Test.YtbnfilhilgjnfaaDoorStir
namespace Go.Proofs.YtbnfilhilgjnfaaDoor
set_option linter.unusedVariables false
set_option maxRecDepth 100000
set_option linter.unusedSimpArgs false
open Go.ChangeShapes Go.WideShapes Go.ChangeAt Go.RowKit

set_option maxHeartbeats 1000000 in
theorem rotl16 (x : Nat) (w : World) (hx : x < 4294967296) :
    Calls Tryd.prog 94 #[.int .u32 (x : Int), .int .i64 16] w fun e w' => e = .returned (.int .u32 ((rl x 16 : Nat) : Int)) ∧ w = w' := by
  have hs : bits .and .u64 (IntKind.u64.wrap 16) 31 = 16 := by decide
  have hs' : bits .and .u64 16 31 = 16 := by decide
  go_enter Tryd.func94, Tryd.ntmps94
  go_wp2_with fail
  go_ret
  refine ⟨?_, rfl⟩
  have := rl_bits x 16 (by decide) hx 65536 65536 (by decide) (by decide)
  exact congrArg (fun z => Ending.returned (Value.int .u32 z)) this
set_option maxHeartbeats 1000000 in
theorem rotl12 (x : Nat) (w : World) (hx : x < 4294967296) :
    Calls Tryd.prog 94 #[.int .u32 (x : Int), .int .i64 12] w fun e w' => e = .returned (.int .u32 ((rl x 12 : Nat) : Int)) ∧ w = w' := by
  have hs : bits .and .u64 (IntKind.u64.wrap 12) 31 = 12 := by decide
  have hs' : bits .and .u64 12 31 = 12 := by decide
  go_enter Tryd.func94, Tryd.ntmps94
  go_wp2_with fail
  go_ret
  refine ⟨?_, rfl⟩
  have := rl_bits x 12 (by decide) hx 4096 1048576 (by decide) (by decide)
  exact congrArg (fun z => Ending.returned (Value.int .u32 z)) this
set_option maxHeartbeats 1000000 in
theorem rotl8 (x : Nat) (w : World) (hx : x < 4294967296) :
    Calls Tryd.prog 94 #[.int .u32 (x : Int), .int .i64 8] w fun e w' => e = .returned (.int .u32 ((rl x 8 : Nat) : Int)) ∧ w = w' := by
  have hs : bits .and .u64 (IntKind.u64.wrap 8) 31 = 8 := by decide
  have hs' : bits .and .u64 8 31 = 8 := by decide
  go_enter Tryd.func94, Tryd.ntmps94
  go_wp2_with fail
  go_ret
  refine ⟨?_, rfl⟩
  have := rl_bits x 8 (by decide) hx 256 16777216 (by decide) (by decide)
  exact congrArg (fun z => Ending.returned (Value.int .u32 z)) this
set_option maxHeartbeats 1000000 in
theorem rotl7 (x : Nat) (w : World) (hx : x < 4294967296) :
    Calls Tryd.prog 94 #[.int .u32 (x : Int), .int .i64 7] w fun e w' => e = .returned (.int .u32 ((rl x 7 : Nat) : Int)) ∧ w = w' := by
  have hs : bits .and .u64 (IntKind.u64.wrap 7) 31 = 7 := by decide
  have hs' : bits .and .u64 7 31 = 7 := by decide
  go_enter Tryd.func94, Tryd.ntmps94
  go_wp2_with fail
  go_ret
  refine ⟨?_, rfl⟩
  have := rl_bits x 7 (by decide) hx 128 33554432 (by decide) (by decide)
  exact congrArg (fun z => Ending.returned (Value.int .u32 z)) this
def quart4 (a b c d : Nat) : Nat × Nat × Nat × Nat :=
  let a1 := add2 a b
  let d1 := rl (d ^^^ a1) 16
  let c1 := add2 c d1
  let b1 := rl (b ^^^ c1) 12
  let a2 := add2 a1 b1
  let d2 := rl (d1 ^^^ a2) 8
  let c2 := add2 c1 d2
  let b2 := rl (b1 ^^^ c2) 7
  (a2, b2, c2, d2)
def quartL (l : List Nat) (a b c d : Nat) : List Nat :=
  let q := quart4 (l.getD a 0) (l.getD b 0) (l.getD c 0) (l.getD d 0)
  (((l.set a q.1).set b q.2.1).set c q.2.2.1).set d q.2.2.2
theorem quartL_len (l : List Nat) (a b c d : Nat) : (quartL l a b c d).length = l.length := by simp [quartL]
theorem quart4_lt {a b c d : Nat} (ha : a < 4294967296) (hb : b < 4294967296) (hc : c < 4294967296) (hd : d < 4294967296) :
    (quart4 a b c d).1 < 4294967296 ∧ (quart4 a b c d).2.1 < 4294967296 ∧ (quart4 a b c d).2.2.1 < 4294967296 ∧ (quart4 a b c d).2.2.2 < 4294967296 := by
  have l2 := add2_lt a b
  have l4 := rl_lt _ 16 (by decide) (xor_lt hd l2)
  have l5 := add2_lt c (rl (d ^^^ add2 a b) 16)
  have l7 := rl_lt _ 12 (by decide) (xor_lt hb l5)
  have l9 := add2_lt (add2 a b) (rl (b ^^^ add2 c (rl (d ^^^ add2 a b) 16)) 12)
  have l11 := rl_lt _ 8 (by decide) (xor_lt l4 l9)
  exact ⟨l9, rl_lt _ 7 (by decide) (xor_lt l7 (add2_lt _ _)), add2_lt _ _, l11⟩
theorem quartL_32 {l : List Nat} (h : W32 l) (a b c d : Nat) : W32 (quartL l a b c d) := by
  obtain ⟨h1, h2, h3, h4⟩ := quart4_lt (h.getD a) (h.getD b) (h.getD c) (h.getD d)
  exact (((h.set a h1).set b h2).set c h3).set d h4

set_option maxRecDepth 100000 in
set_option maxHeartbeats 4000000 in
theorem quarter_any (g a b c d : Nat) (l : List Nat) (w : World) (hl : l.length = 16) (h32 : W32 l) (hr : RowAt w g 112 (u32v l))
    (ha : a < 16) (hb : b < 16) (hc : c < 16) (hd : d < 16) (hab : ¬ a = b) (hac : ¬ a = c) (had : ¬ a = d) (hbc : ¬ b = c) (hbd : ¬ b = d) (hcd : ¬ c = d) :
    Calls Tryd.prog 91 #[.pointer (some ⟨g, 0, none⟩), .int .i64 (a : Int), .int .i64 (b : Int), .int .i64 (c : Int), .int .i64 (d : Int)] w
      fun e w' => e = .returned (.tuple #[]) ∧ RowAt w' g 112 (u32v (quartL l a b c d)) ∧ Only (· = g) w w' := by
  have ca := u32_cell hr a (by omega)
  have cb := u32_cell hr b (by omega)
  have cc := u32_cell hr c (by omega)
  have cd := u32_cell hr d (by omega)
  have ga := h32.getD a
  have gb := h32.getD b
  have gc := h32.getD c
  have gd := h32.getD d
  have HR := hide hr
  have za := hr.frozen a
  have zb := hr.frozen b
  have zc := hr.frozen c
  have zd := hr.frozen d
  clear hr
  have HE : Hid (quartL l a b c d = (((l.set a (quart4 (l.getD a 0) (l.getD b 0) (l.getD c 0) (l.getD d 0)).1).set b (quart4 (l.getD a 0) (l.getD b 0) (l.getD c 0) (l.getD d 0)).2.1).set c (quart4 (l.getD a 0) (l.getD b 0) (l.getD c 0) (l.getD d 0)).2.2.1).set d (quart4 (l.getD a 0) (l.getD b 0) (l.getD c 0) (l.getD d 0)).2.2.2) := rfl
  generalize l.getD a 0 = va at *
  generalize l.getD b 0 = vb at *
  generalize l.getD c 0 = vc at *
  generalize l.getD d 0 = vd at *
  obtain ⟨a1, e2⟩ : ∃ s, s = add2 va vb := ⟨_, rfl⟩
  have f2 := add2_int va vb
  rw [← e2] at f2
  have l2 : a1 < 4294967296 := e2 ▸ add2_lt _ _
  have f3 := u32_xor_nat vd a1 gd l2
  have l3 := xor_lt gd l2
  obtain ⟨x1, e3⟩ : ∃ s, s = vd ^^^ a1 := ⟨_, rfl⟩
  rw [← e3] at f3 l3
  obtain ⟨d1, e4⟩ : ∃ s, s = rl x1 16 := ⟨_, rfl⟩
  have l4 : d1 < 4294967296 := e4 ▸ rl_lt _ _ (by decide) l3
  obtain ⟨c1, e5⟩ : ∃ s, s = add2 vc d1 := ⟨_, rfl⟩
  have f5 := add2_int vc d1
  rw [← e5] at f5
  have l5 : c1 < 4294967296 := e5 ▸ add2_lt _ _
  have f6 := u32_xor_nat vb c1 gb l5
  have l6 := xor_lt gb l5
  obtain ⟨x2, e6⟩ : ∃ s, s = vb ^^^ c1 := ⟨_, rfl⟩
  rw [← e6] at f6 l6
  obtain ⟨b1, e7⟩ : ∃ s, s = rl x2 12 := ⟨_, rfl⟩
  have l7 : b1 < 4294967296 := e7 ▸ rl_lt _ _ (by decide) l6
  obtain ⟨a2, e9⟩ : ∃ s, s = add2 a1 b1 := ⟨_, rfl⟩
  have f9 := add2_int a1 b1
  rw [← e9] at f9
  have l9 : a2 < 4294967296 := e9 ▸ add2_lt _ _
  have f10 := u32_xor_nat d1 a2 l4 l9
  have l10 := xor_lt l4 l9
  obtain ⟨x3, e10⟩ : ∃ s, s = d1 ^^^ a2 := ⟨_, rfl⟩
  rw [← e10] at f10 l10
  obtain ⟨d2, e11⟩ : ∃ s, s = rl x3 8 := ⟨_, rfl⟩
  have l11 : d2 < 4294967296 := e11 ▸ rl_lt _ _ (by decide) l10
  obtain ⟨c2, e12⟩ : ∃ s, s = add2 c1 d2 := ⟨_, rfl⟩
  have f12 := add2_int c1 d2
  rw [← e12] at f12
  have l12 : c2 < 4294967296 := e12 ▸ add2_lt _ _
  have f13 := u32_xor_nat b1 c2 l7 l12
  have l13 := xor_lt l7 l12
  obtain ⟨x4, e13⟩ : ∃ s, s = b1 ^^^ c2 := ⟨_, rfl⟩
  rw [← e13] at f13 l13
  obtain ⟨b2, e14⟩ : ∃ s, s = rl x4 7 := ⟨_, rfl⟩
  have l14 : b2 < 4294967296 := e14 ▸ rl_lt _ _ (by decide) l13
  have HS : Hid (quart4 va vb vc vd = (a2, b2, c2, d2)) := by
    show _ = _
    subst e14 e13 e12 e11 e10 e9 e7 e6 e5 e4 e3 e2
    rfl
  have HR1 : ∀ w, Calls Tryd.prog 94 #[.int .u32 (x1 : Int), .int .i64 16] w fun e w' => e = .returned (.int .u32 (d1 : Int)) ∧ w = w' := fun w => e4 ▸ rotl16 x1 w l3
  have HR2 : ∀ w, Calls Tryd.prog 94 #[.int .u32 (x2 : Int), .int .i64 12] w fun e w' => e = .returned (.int .u32 (b1 : Int)) ∧ w = w' := fun w => e7 ▸ rotl12 x2 w l6
  have HR3 : ∀ w, Calls Tryd.prog 94 #[.int .u32 (x3 : Int), .int .i64 8] w fun e w' => e = .returned (.int .u32 (d2 : Int)) ∧ w = w' := fun w => e11 ▸ rotl8 x3 w l10
  have HR4 : ∀ w, Calls Tryd.prog 94 #[.int .u32 (x4 : Int), .int .i64 7] w fun e w' => e = .returned (.int .u32 (b2 : Int)) ∧ w = w' := fun w => e14 ▸ rotl7 x4 w l13
  have K1 := hide HR1
  have K2 := hide HR2
  have K3 := hide HR3
  have K4 := hide HR4
  clear HR1 HR2 HR3 HR4 e2 e3 e4 e5 e6 e7 e9 e10 e11 e12 e13 e14 l2 l3 l4 l5 l6 l7 l9 l10 l11 l12 l13 l14 ga gb gc gd h32
  have ba : (a : Int) < 16 := by omega
  have bb : (b : Int) < 16 := by omega
  have bc : (c : Int) < 16 := by omega
  have bd : (d : Int) < 16 := by omega
  clear ha hb hc hd
  go_enter Tryd.func91, Tryd.ntmps91
  go_wp2_with fail
  go_quiet (fail)
  go_wp2_with fail
  refine (unhide K1 _).mono ?_
  rintro e w1 ⟨rfl, rfl⟩
  clear K1
  go_wp2_with fail
  refine (unhide K2 _).mono ?_
  rintro e w1 ⟨rfl, rfl⟩
  clear K2
  go_wp2_with fail
  refine (unhide K3 _).mono ?_
  rintro e w1 ⟨rfl, rfl⟩
  clear K3
  go_wp2_with fail
  refine (unhide K4 _).mono ?_
  rintro e w1 ⟨rfl, rfl⟩
  clear K4
  go_wp2_with fail
  have na := (RowAt.drewN (unhide HR) nq)
  have OO := hide (Only.drewN (Only.refl (· = g) w) nq)
  have HR2 := hide na
  have ya := (RowAt.drewN (unhide HR) nq).frozen a
  have yb := (RowAt.drewN (unhide HR) nq).frozen b
  have yc := (RowAt.drewN (unhide HR) nq).frozen c
  have yd := (RowAt.drewN (unhide HR) nq).frozen d
  have ka : (w.drewN nq).cell? ⟨g, a, none⟩ = some (.int .u32 (va : Int)) := by simpa using ca
  have kb : (w.drewN nq).cell? ⟨g, b, none⟩ = some (.int .u32 (vb : Int)) := by simpa using cb
  have kc : (w.drewN nq).cell? ⟨g, c, none⟩ = some (.int .u32 (vc : Int)) := by simpa using cc
  have kd : (w.drewN nq).cell? ⟨g, d, none⟩ = some (.int .u32 (vd : Int)) := by simpa using cd
  clear na ca cb cc cd za zb zc zd HR
  generalize w.drewN nq = w1 at *
  have hba : ¬ b = a := fun e => hab e.symm
  have hca : ¬ c = a := fun e => hac e.symm
  have hda : ¬ d = a := fun e => had e.symm
  have hcb : ¬ c = b := fun e => hbc e.symm
  have hdb : ¬ d = b := fun e => hbd e.symm
  have hdc : ¬ d = c := fun e => hcd e.symm
  go_region
  go_end0
  refine ⟨rfl, ?_, ?_⟩
  · rw [unhide HE, unhide HS]
    have r1 := (((unhide HR2).set a (.int .u32 (a2 : Int))).set b (.int .u32 (b2 : Int))).set c (.int .u32 (c2 : Int))
    have r2 := r1.set d (.int .u32 (d2 : Int))
    rw [u32v_set, u32v_set, u32v_set, u32v_set] at r2
    exact r2.drew
  · exact (((((unhide OO).set g a _ rfl).set g b _ rfl).set g c _ rfl).set g d _ rfl).drew
end Go.Proofs.YtbnfilhilgjnfaaDoor
