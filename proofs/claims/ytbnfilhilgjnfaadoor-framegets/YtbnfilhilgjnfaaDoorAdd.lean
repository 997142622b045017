/- Lists of bytes taken in; a digest that begins. -/
import Derived.Test.YtbnfilhilgjnfaaDoorTake
namespace Go.Proofs.YtbnfilhilgjnfaaDoor
set_option linter.unusedVariables false
set_option linter.unusedSimpArgs false
open Go.ChangeShapes Go.WideShapes Go.ChangeAt Go.RowKit

/-- a slice of slices of bytes -/
def LL (w : World) (v : Value) (P : List (Value × List Nat)) : Prop :=
  ∃ a cap, v = .slice a P.length cap ∧ (P.length ≤ cap ∧ cap ≤ maxLen) ∧ ∀ (i : Nat) u l, P[i]? = some (u, l) → (∃ b, a = some b ∧ w.cell? (b.add i) = some u) ∧ Byt w u l
def LOff (v : Value) (P : List (Value × List Nat)) (p : Nat → Prop) : Prop := Off v p ∧ ∀ x ∈ P, Off x.1 p
def flat (P : List (Value × List Nat)) : List Nat := (P.map (·.2)).flatten
theorem LL.only {p : Nat → Prop} {w w' : World} {v : Value} {P : List (Value × List Nat)} (h : LL w v P) (ho : Only p w w') (hp : LOff v P p) : LL w' v P := by
  obtain ⟨a, cap, rfl, hc, h1⟩ := h
  refine ⟨a, cap, rfl, hc, fun i u l hi => ?_⟩
  obtain ⟨⟨b, rfl, h2⟩, h3⟩ := h1 i u l hi
  exact ⟨⟨b, rfl, ho.cell (by rw [add_block]; exact hp.1 _ rfl) h2⟩, ho.byt h3 (hp.2 _ (List.mem_of_getElem? hi))⟩

set_option maxHeartbeats 1000000 in
theorem made_any (g : Nat) (h blk : List Nat) (held folded : Nat) (made : Bool) (w : World) (hh : h.length = 8) (hb : blk.length = 64) (hr : RowAt w g 107 (dcells h blk held folded made)) :
    Calls Tryd.prog 83 #[.pointer (some ⟨g, 0, none⟩)] w fun e w' => e = .returned (.bool made) ∧ w = w' := by
  have k := (hr.cell 74).trans (dcells_get (held := held) (folded := folded) (made := made) hh hb).2.2
  clear hr
  go_enter Tryd.func83, Tryd.ntmps83
  go_wp2_with fail
  go_ret
  exact ⟨rfl, rfl⟩
set_option maxHeartbeats 1000000 in
theorem made_nil (w : World) : Calls Tryd.prog 83 #[.pointer none] w fun e w' => e = .returned (.bool false) ∧ w = w' := by
  go_enter Tryd.func83, Tryd.ntmps83
  go_wp2_with fail
  go_ret
  exact ⟨rfl, rfl⟩
theorem made_dg (g nf : Nat) (h0 all : List Nat) (w : World) (hh : h0.length = 8) (hd : DgAt w g h0 all nf) : Calls Tryd.prog 83 #[.pointer (some ⟨g, 0, none⟩)] w fun e w' => e = .returned (.bool true) ∧ w = w' := by
  obtain ⟨blk, h1, _, _, _, _, h6⟩ := hd
  exact made_any g _ blk _ _ true w (hsK_len _ _ hh _) h1 h6

/-- a digest that took these bytes -/
def Dg (w : World) (g : Nat) (h0 all : List Nat) : Prop := ∃ nf, DgAt w g h0 all nf ∧ (nf = 0 ∨ 64 * nf < all.length)
theorem Dg.only {p : Nat → Prop} {w w' : World} {g : Nat} {h0 all : List Nat} (h : Dg w g h0 all) (ho : Only p w w') (hg : ¬ p g) : Dg w' g h0 all := by
  obtain ⟨nf, h1, h2⟩ := h
  exact ⟨nf, h1.only ho hg, h2⟩
theorem Dg.lt {w : World} {g : Nat} {h0 all : List Nat} (h : Dg w g h0 all) : g < w.heap.size := by
  obtain ⟨nf, h1, _⟩ := h
  exact h1.lt

set_option maxRecDepth 100000 in
set_option maxHeartbeats 4000000 in
theorem add_any (g : Nat) (h0 all : List Nat) (P : List (Value × List Nat)) (v : Value) (w : World) (hT : Tabs w) (hg2 : 7 ≤ g) (hh : h0.length = 8) (h32 : W32 h0) (hd : Dg w g h0 all) (ha8 : U8 all) (hv : LL w v P) (hoff : LOff v P (· = g)) (hP8 : ∀ x ∈ P, U8 x.2) (hbig : all.length + (flat P).length ≤ 1000000000) :
    Calls Tryd.prog 74 #[.pointer (some ⟨g, 0, none⟩), v] w
      fun e w' => e = .returned (.int .i64 0) ∧ Dg w' g h0 (all ++ flat P) ∧ Only (· = g) w w' := by
  have HM := hide (let ⟨nf, h1, _⟩ := hd; made_dg g nf h0 all w hh h1)
  have HT := hide hT
  have HD := hide hd
  have HV := hide hv
  have HF := hide hoff
  have H8 := hide hP8
  obtain ⟨a, cap, rfl, hcap, _⟩ := hv
  obtain ⟨N, hN⟩ : ∃ N, P.length = N := ⟨_, rfl⟩
  rw [hN]
  have HNN := hide hN
  have hNm : N ≤ 9223372036854775807 := by have := hcap.1; have := hcap.2; unfold maxLen at this; omega
  clear hT hd hoff hP8 hcap hN
  go_enter Tryd.func74, Tryd.ntmps74
  go_wp2_with fail
  refine Calls.mono (unhide HM) ?_
  rintro e w1 ⟨rfl, rfl⟩
  go_wp2_with fail
  go_loopw [12] (fun s wr => ∃ k : Nat, k ≤ N ∧ s = .int .i64 (k : Int) ∧ Hid (Dg wr g h0 (all ++ flat (P.take k)) ∧ Only (· = g) w wr)) (fun s _ => (N - intOf s).toNat)
  case atStart => exact ⟨0, by omega, rfl, by simpa [flat] using unhide HD, Only.refl _ _⟩
  case round =>
    obtain ⟨k, hk, rfl, HB⟩ := hrel
    by_cases hlt : k < N
    · have hkP : k < P.length := by rw [unhide HNN]; exact hlt
      obtain ⟨⟨u, l⟩, hul⟩ : ∃ x, P[k]? = some x := ⟨_, List.getElem?_eq_getElem hkP⟩
      obtain ⟨d1, d2⟩ := unhide HB
      obtain ⟨a', cap', hav, _, hq⟩ := (unhide HV).only d2 (unhide HF)
      obtain ⟨rfl, _, rfl⟩ : a = a' ∧ _ ∧ cap = cap' := by injection hav with h1 h2 h3; exact ⟨h1, h2, h3⟩
      obtain ⟨⟨b, rfl, hc⟩, hby⟩ := hq k u l hul
      have hmem := List.mem_of_getElem? hul
      have h8a : U8 (all ++ flat (P.take k)) := by
        intro y hy
        rcases List.mem_append.1 hy with hy | hy
        · exact ha8 y hy
        · simp only [flat, List.mem_flatten, List.mem_map] at hy
          obtain ⟨_, ⟨x, hx, rfl⟩, hy⟩ := hy
          exact unhide H8 x (List.mem_of_mem_take hx) y hy
      have eT : flat (P.take (k + 1)) = flat (P.take k) ++ l := by
        rw [List.take_succ_eq_append_getElem hkP, flat, List.map_append, List.flatten_append]
        have : P[k] = (u, l) := by rw [List.getElem?_eq_getElem hkP] at hul; exact Option.some.inj hul
        simp [flat, this]
      have hlen : (flat (P.take (k + 1))).length ≤ (flat P).length := by
        have : flat P = flat (P.take (k + 1)) ++ flat (P.drop (k + 1)) := by
          rw [flat, flat, flat, ← List.flatten_append, ← List.map_append, List.take_append_drop]
        rw [this, List.length_append]; omega
      obtain ⟨nf, e1, e2⟩ := d1
      have HTK := hide (take_any g h0 (all ++ flat (P.take k)) l nf u wr ((unhide HT).only d2 (fun k hk => by omega)) hg2 hh h32 e1 e2 h8a hby ((unhide HF).2 _ hmem) (unhide H8 _ hmem) (by rw [eT, List.length_append] at hlen; rw [List.length_append]; omega))
      have HET := hide eT
      have HO := hide d2
      have HLT := hide hlt
      have hkN : (k : Int) < (N : Int) := by omega
      clear hul d2 hq hby hmem h8a eT hlen e1 e2 hkP HB
      go_wp2_with fail
      refine Calls.mono (unhide HTK) ?_
      rintro e w2 ⟨rfl, t1, t2⟩
      have HB2 : Hid (Dg w2 g h0 (all ++ flat (P.take (k + 1))) ∧ Only (· = g) w w2) := hide ⟨by rw [unhide HET, ← List.append_assoc]; exact t1, (unhide HO).trans t2⟩
      clear t1 t2 HTK
      go_wp2_with fail
      go_roundw
      case rel => exact ⟨k + 1, by have := unhide HLT; omega, by go_num, HB2⟩
      case measure => have := unhide HLT; simp [intOf]; omega
    · have hk8 : k = N := by omega
      have hnn : ¬ (k : Int) < (N : Int) := by omega
      rw [List.take_of_length_le (by rw [unhide HNN]; omega)] at HB
      go_wp2_with fail
      go_ret
      exact ⟨rfl, (unhide HB).1, (unhide HB).2⟩
end Go.Proofs.YtbnfilhilgjnfaaDoor
