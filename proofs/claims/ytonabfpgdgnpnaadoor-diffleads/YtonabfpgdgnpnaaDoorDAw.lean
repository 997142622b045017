/- The example. -/
import Derived.Test.YtonabfpgdgnpnaaDoorDMg
namespace Go.Proofs.YtonabfpgdgnpnaaDoor
set_option linter.unusedVariables false
set_option linter.unusedSimpArgs false
open Go.ChangeShapes Go.WideShapes Go.ChangeAt Go.RowKit Go.Joins Go.Deep

def lcsF : Nat → List CP → List CP → Nat
  | 0, _, _ => 0
  | _ + 1, [], _ => 0
  | _ + 1, _ :: _, [] => 0
  | n + 1, c :: x, d :: y => if c = d then lcsF n x y + 1 else max (lcsF n x (d :: y)) (lcsF n (c :: x) y)
theorem lcsF_eq : ∀ (n : Nat) (x y : List CP), x.length + y.length ≤ n → lcsF n x y = lcs x y
  | 0, [], y, h => by rw [lcs_nil_left]; rfl
  | 0, _ :: _, _, h => by simp at h
  | n + 1, [], y, h => by rw [lcs_nil_left]; rfl
  | n + 1, _ :: _, [], h => by rw [lcs_nil_right]; rfl
  | n + 1, c :: x, d :: y, h => by
    rw [List.length_cons, List.length_cons] at h
    by_cases e : c = d
    · subst e
      rw [lcs_eq, lcsF, if_pos rfl, lcsF_eq n x y (by omega)]
    · rw [lcs_ne e, lcsF, if_neg e, lcsF_eq n x (d :: y) (by rw [List.length_cons]; omega), lcsF_eq n (c :: x) y (by rw [List.length_cons]; omega)]
def leadF : Nat → List CP → List CP → List At
  | 0, _, _ => []
  | _ + 1, [], [] => []
  | n + 1, [], d :: y => .p d :: leadF n [] y
  | n + 1, _ :: x, [] => .d :: leadF n x []
  | n + 1, c :: x, d :: y => if c = d then .k :: leadF n x y else if lcsF n (c :: x) y ≤ lcsF n x (d :: y) then .d :: leadF n x (d :: y) else .p d :: leadF n (c :: x) y
theorem leadF_eq : ∀ (n : Nat) (x y : List CP), x.length + y.length ≤ n → leadF n x y = leadA x y
  | 0, [], [], _ => by rw [leadA]; rfl
  | 0, [], _ :: _, h => by simp at h
  | 0, _ :: _, _, h => by simp at h
  | n + 1, [], [], _ => by rw [leadA]; rfl
  | n + 1, [], d :: y, h => by rw [leadA, leadF, leadF_eq n [] y (by rw [List.length_cons] at h; omega)]
  | n + 1, c :: x, [], h => by rw [leadA, leadF, leadF_eq n x [] (by rw [List.length_cons] at h; omega)]
  | n + 1, c :: x, d :: y, h => by
    rw [List.length_cons, List.length_cons] at h
    rw [leadA, leadF, leadF_eq n x y (by omega), leadF_eq n x (d :: y) (by rw [List.length_cons]; omega), leadF_eq n (c :: x) y (by rw [List.length_cons]; omega), lcsF_eq n x (d :: y) (by rw [List.length_cons]; omega), lcsF_eq n (c :: x) y (by rw [List.length_cons]; omega)]
theorem aw_lead : leadA [[97], [98], [99], [100]] [[97], [120], [99], [121]] = [.k, .d, .p [120], .k, .d, .p [121]] ∨ leadA [[97], [98], [99], [100]] [[97], [120], [99], [121]] = [.k, .p [120], .d, .k, .p [121], .d] := by
  rw [← leadF_eq 8 _ _ (by decide)]
  exact .inl (by rfl)
theorem aw_l1 : leadA [[111], [110], [101], [32], [116], [119], [111]] [[111], [110], [101], [32], [50], [32], [116], [119], [111]] = [.k, .k, .k, .k, .p [50], .p [32], .k, .k, .k] := by
  rw [← leadF_eq 16 _ _ (by decide)]
  rfl
theorem aw_l2 : leadA [[111], [110], [101], [32], [116], [119], [111]] [[49], [32], [111], [110], [101], [32], [116], [119], [111]] = [.p [49], .p [32], .k, .k, .k, .k, .k, .k, .k] := by
  rw [← leadF_eq 16 _ _ (by decide)]
  kernel_rfl
theorem aw_mg : At.app (At.can (At.two (At.can (leadA [[111], [110], [101], [32], [116], [119], [111]] [[111], [110], [101], [32], [50], [32], [116], [119], [111]])) (At.can (leadA [[111], [110], [101], [32], [116], [119], [111]] [[49], [32], [111], [110], [101], [32], [116], [119], [111]])))) [[111], [110], [101], [32], [50], [32], [116], [119], [111]] = [[49], [32], [111], [110], [101], [32], [50], [32], [116], [119], [111]] := by
  rw [aw_l1, aw_l2]
  simp [At.can, At.canG, At.two, At.app]
def awL : List Pt := [⟨1, 1, ⟨#[]⟩⟩, ⟨2, 1, ⟨#[120]⟩⟩, ⟨3, 1, ⟨#[]⟩⟩, ⟨1, 1, ⟨#[]⟩⟩, ⟨2, 1, ⟨#[121]⟩⟩, ⟨3, 1, ⟨#[]⟩⟩]
theorem aw_good (c : UInt8) (h : c.toNat < 128) : Good ⟨2, 1, ⟨#[c]⟩⟩ ∧ atoms ⟨2, 1, ⟨#[c]⟩⟩ = [.p [c]] := by
  have hx : Tx ⟨#[c]⟩ [[c]] := tx_ascii [c] (by intro b hb; rw [List.mem_singleton] at hb; rw [hb]; exact h)
  exact ⟨⟨by show (1 : Int) ≤ 1; omega, .inr (.inr ⟨rfl, _, hx, rfl⟩)⟩, atoms_put hx⟩
theorem aw_nf : NfG 0 awL ∧ atomsL awL = At.can (leadA [[97], [98], [99], [100]] [[97], [120], [99], [121]]) := by
  have g1 : Good ⟨1, 1, ⟨#[]⟩⟩ := good_keep (by decide)
  have g3 : Good ⟨3, 1, ⟨#[]⟩⟩ := good_drop (by decide)
  have gx := aw_good 120 (by decide)
  have gy := aw_good 121 (by decide)
  refine ⟨⟨g1, by decide, by decide, gx.1, by decide, by decide, g3, by decide, by decide, g1, by decide, by decide, gy.1, by decide, by decide, g3, by decide, by decide, trivial⟩, ?_⟩
  have e : atomsL awL = [.k, .p [120], .d, .k, .p [121], .d] := by
    unfold awL
    simp only [atomsL]
    rw [gx.2, gy.2, atoms_keep, atoms_drop]
    rfl
  rw [e]
  rcases aw_lead with h | h <;> rw [h] <;> simp [At.can, At.canG]
set_option maxRecDepth 100000 in
set_option maxHeartbeats 4000000 in
theorem awake_any (w : World) (hT : UT w) : Calls Tryd.prog 12 #[] w fun r w' => r = .returned (.bool true) ∧ Below w.heap.size w w' := by
  have HU : Hid (∀ W, Below w.heap.size w W → UT W) := hide (fun W h => hT.call h)
  have KD := hide (diff_any ⟨#[97, 98, 99, 100]⟩ ⟨#[97, 120, 99, 121]⟩ w hT (by decide) (by decide))
  clear hT
  go_enter Tryd.func12, Tryd.ntmps12
  go_wp2_with fail
  refine Calls.mono (unhide KD) ?_
  rintro r w1 ⟨h1, b1⟩
  have B1 := hide b1
  clear b1 KD
  have hf0 : firstE [⟨#[97, 98, 99, 100]⟩, ⟨#[97, 120, 99, 121]⟩] = 0 := by
    have e1 := chk_tx (show Tx ⟨#[97, 98, 99, 100]⟩ [[97], [98], [99], [100]] from tx_ascii [97, 98, 99, 100] (by decide))
    have e2 := chk_tx (show Tx ⟨#[97, 120, 99, 121]⟩ [[97], [120], [99], [121]] from tx_ascii [97, 120, 99, 121] (by decide))
    rw [if_neg (by decide)] at e1 e2
    rw [firstE, if_pos e1, firstE, if_pos e2, firstE]
  rcases h1 with ⟨hf, _⟩ | ⟨hf, x, y, v, l, hx, hy, hl1, hl2, rfl, ho, nf, at_⟩
  · exact absurd hf0 hf
  · obtain rfl := hx.inj (show Tx ⟨#[97, 98, 99, 100]⟩ [[97], [98], [99], [100]] from tx_ascii [97, 98, 99, 100] (by decide))
    obtain rfl := hy.inj (show Tx ⟨#[97, 120, 99, 121]⟩ [[97], [120], [99], [121]] from tx_ascii [97, 120, 99, 121] (by decide))
    obtain rfl : l = awL := nf_unique _ _ 0 0 nf aw_nf.1 (at_.trans aw_nf.2.symm)
    have HO := hide ho
    obtain ⟨a1, c1, e, hp1, _, _⟩ := ho.slice
    subst e
    have KM := hide (merge_any ⟨#[111, 110, 101, 32, 116, 119, 111]⟩ ⟨#[111, 110, 101, 32, 50, 32, 116, 119, 111]⟩ ⟨#[49, 32, 111, 110, 101, 32, 116, 119, 111]⟩ w1 (unhide HU _ (unhide B1)) (by decide) (by decide) (by decide))
    rw [show awL.length = 6 from rfl] at *
    clear hf0 hf hx hy hl1 hl2 nf at_ ho hp1
    go_wp2_with fail
    refine Calls.mono (unhide KM) ?_
    rintro r w2 ⟨h2, b2⟩
    have B2 := hide ((unhide B1).trans (b2.mono (unhide B1).size))
    have HO2 := hide (OwnP.call (unhide HO) b2)
    clear b2 KM HO
    have hf0 : firstE [⟨#[111, 110, 101, 32, 116, 119, 111]⟩, ⟨#[111, 110, 101, 32, 50, 32, 116, 119, 111]⟩, ⟨#[49, 32, 111, 110, 101, 32, 116, 119, 111]⟩] = 0 := by
      have e1 := chk_tx (show Tx ⟨#[111, 110, 101, 32, 116, 119, 111]⟩ [[111], [110], [101], [32], [116], [119], [111]] from tx_ascii [111, 110, 101, 32, 116, 119, 111] (by decide))
      have e2 := chk_tx (show Tx ⟨#[111, 110, 101, 32, 50, 32, 116, 119, 111]⟩ [[111], [110], [101], [32], [50], [32], [116], [119], [111]] from tx_ascii [111, 110, 101, 32, 50, 32, 116, 119, 111] (by decide))
      have e3 := chk_tx (show Tx ⟨#[49, 32, 111, 110, 101, 32, 116, 119, 111]⟩ [[49], [32], [111], [110], [101], [32], [116], [119], [111]] from tx_ascii [49, 32, 111, 110, 101, 32, 116, 119, 111] (by decide))
      rw [if_neg (by decide)] at e1 e2 e3
      rw [firstE, if_pos e1, firstE, if_pos e2, firstE, if_pos e3, firstE]
    rcases h2 with ⟨hf, _⟩ | ⟨hf, x, y, z, S, hx, hy, hz, hl1, hl2, hl3, rfl, hS⟩
    · exact absurd hf0 hf
    · obtain rfl := hx.inj (show Tx ⟨#[111, 110, 101, 32, 116, 119, 111]⟩ [[111], [110], [101], [32], [116], [119], [111]] from tx_ascii [111, 110, 101, 32, 116, 119, 111] (by decide))
      obtain rfl := hy.inj (show Tx ⟨#[111, 110, 101, 32, 50, 32, 116, 119, 111]⟩ [[111], [110], [101], [32], [50], [32], [116], [119], [111]] from tx_ascii [111, 110, 101, 32, 50, 32, 116, 119, 111] (by decide))
      obtain rfl := hz.inj (show Tx ⟨#[49, 32, 111, 110, 101, 32, 116, 119, 111]⟩ [[49], [32], [111], [110], [101], [32], [116], [119], [111]] from tx_ascii [49, 32, 111, 110, 101, 32, 116, 119, 111] (by decide))
      rw [aw_mg] at hS
      obtain rfl : S = ⟨#[49, 32, 111, 110, 101, 32, 50, 32, 116, 119, 111]⟩ := hS.same (show Tx ⟨#[49, 32, 111, 110, 101, 32, 50, 32, 116, 119, 111]⟩ [[49], [32], [111], [110], [101], [32], [50], [32], [116], [119], [111]] from tx_ascii [49, 32, 111, 110, 101, 32, 50, 32, 116, 119, 111] (by decide))
      obtain ⟨W, hW⟩ : ∃ z, w2.alloc (.cells #[.int .i64 1, .int .i64 1, .string ⟨#[]⟩, .int .i64 2, .int .i64 1, .string ⟨#[120]⟩, .int .i64 3, .int .i64 1, .string ⟨#[]⟩, .int .i64 1, .int .i64 1, .string ⟨#[]⟩, .int .i64 2, .int .i64 1, .string ⟨#[121]⟩, .int .i64 3, .int .i64 1, .string ⟨#[]⟩] 39) = z := ⟨_, rfl⟩
      have hr := RowAt.new w2 39 (ptc awL)
      have hal : Below w2.heap.size w2 (w2.alloc (.cells #[.int .i64 1, .int .i64 1, .string ⟨#[]⟩, .int .i64 2, .int .i64 1, .string ⟨#[120]⟩, .int .i64 3, .int .i64 1, .string ⟨#[]⟩, .int .i64 1, .int .i64 1, .string ⟨#[]⟩, .int .i64 2, .int .i64 1, .string ⟨#[121]⟩, .int .i64 3, .int .i64 1, .string ⟨#[]⟩] 39)) := (Below.refl _ _).alloc (Nat.le_refl _) _
      rw [show (ptc awL).toArray = #[.int .i64 1, .int .i64 1, .string ⟨#[]⟩, .int .i64 2, .int .i64 1, .string ⟨#[120]⟩, .int .i64 3, .int .i64 1, .string ⟨#[]⟩, .int .i64 1, .int .i64 1, .string ⟨#[]⟩, .int .i64 2, .int .i64 1, .string ⟨#[121]⟩, .int .i64 3, .int .i64 1, .string ⟨#[]⟩] from rfl, hW] at hr
      rw [hW] at hal
      have HO3 := hide (OwnP.call (unhide HO2) hal)
      have B3 := hide ((unhide B2).trans (hal.mono (unhide B2).size))
      obtain ⟨a9, c9, e9, hp1, _, _⟩ := (unhide HO3).slice
      injection e9 with e91 e92 e93
      clear e92
      subst e91 e93
      have KE := hide (rsame_true a1 (some ⟨w2.heap.size, 0, none⟩) awL c1 6 6 W hp1 (row_pts hr) rfl (by unfold maxLen; omega))
      have HW := hide hW
      clear hf0 hf hx hy hz hl1 hl2 hl3 hS hW hr hal hp1 HO2 HO3 B2
      go_wp2_with fail
      try rw [unhide HW]
      refine Calls.mono (unhide KE) ?_
      rintro r w4 ⟨rfl, b4⟩
      have B4 := hide ((unhide B3).trans (b4.mono (unhide B3).size))
      clear b4 KE
      go_wp2_with fail
      go_ret
      exact ⟨by first | rfl | (simp; done), unhide B4⟩
end Go.Proofs.YtonabfpgdgnpnaaDoor
