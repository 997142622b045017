/- Where a pattern stands: how much of it stands so far (grow). -/
import Derived.Test.YtdnbhomjfgpcfaaDoorLLn
namespace Go.Proofs.YtdnbhomjfgpcfaaDoor
set_option linter.unusedVariables false
set_option linter.unusedSimpArgs false
open Go.ChangeShapes Go.WideShapes Go.ChangeAt Go.RowKit Go.Joins Go.Deep

/-- so much of a pattern stands last, and no more that is less than all -/
def Mq (P X : List Int) (n : Nat) : Prop := n < P.length ∧ P.take n <:+ X ∧ ∀ k, k < P.length → P.take k <:+ X → k ≤ n
/-- the longest lesser beginning with which a beginning ends -/
def Bd (P : List Int) (q b : Nat) : Prop := b < q ∧ P.take b <:+ P.take q ∧ ∀ k, k < q → P.take k <:+ P.take q → k ≤ b
def gw (P : List Int) (bk : List Nat) (r : Int) : Nat → Nat → Nat
  | 0, n => n
  | f + 1, n => if P.getD n 0 = r then n + 1 else if n = 0 then 0 else gw P bk r f (bk.getD n 0)
theorem take_next {P : List Int} {n : Nat} (h : n < P.length) : P.take (n + 1) = P.take n ++ [P.getD n 0] := by
  rw [List.take_add_one, List.getD_eq_getElem?_getD, List.getElem?_eq_getElem h]
  rfl
theorem suf_snoc {a b : List Int} {x y : Int} : a ++ [x] <:+ b ++ [y] ↔ a <:+ b ∧ x = y := by
  constructor
  · rintro ⟨t, ht⟩
    rw [← List.append_assoc] at ht
    have h := List.append_inj' ht rfl
    exact ⟨⟨t, h.1⟩, by simpa using h.2⟩
  · rintro ⟨⟨t, ht⟩, rfl⟩
    exact ⟨t, by rw [← List.append_assoc, ht]⟩
theorem gw_spec {P : List Int} {bk : List Nat} {r : Int} : ∀ (f n : Nat) (X : List Int), n < f → n < P.length → P.take n <:+ X → (∀ k, k < P.length → P.take k <:+ X → P.getD k 0 = r → k ≤ n) → (∀ q, 0 < q → q ≤ n → Bd P q (bk.getD q 0)) →
    gw P bk r f n ≤ n + 1 ∧ P.take (gw P bk r f n) <:+ X ++ [r] ∧ ∀ k, k ≤ P.length → P.take k <:+ X ++ [r] → k ≤ gw P bk r f n
  | 0, n, X, hf, _, _, _, _ => by omega
  | f + 1, n, X, hf, hn, hs, hm, hb => by
    rw [gw]
    by_cases h1 : P.getD n 0 = r
    · rw [if_pos h1]
      refine ⟨by omega, ?_, fun k hk hks => ?_⟩
      · rw [take_next hn, h1]
        exact suf_snoc.2 ⟨hs, rfl⟩
      · cases k with
        | zero => omega
        | succ k =>
          rw [take_next (by omega)] at hks
          have h2 := suf_snoc.1 hks
          have := hm k (by omega) h2.1 h2.2
          omega
    · rw [if_neg h1]
      by_cases h0 : n = 0
      · rw [if_pos h0]
        refine ⟨by omega, by simp, fun k hk hks => ?_⟩
        cases k with
        | zero => omega
        | succ k =>
          exfalso
          rw [take_next (by omega)] at hks
          have h2 := suf_snoc.1 hks
          have h3 := hm k (by omega) h2.1 h2.2
          obtain rfl : k = n := by omega
          exact h1 h2.2
      · rw [if_neg h0]
        have hbn := hb n (by omega) (Nat.le_refl _)
        have ih := gw_spec f (bk.getD n 0) X (by have := hbn.1; omega) (by have := hbn.1; omega) (hbn.2.1.trans hs) (fun k hk hks hkr => by
          have h3 := hm k hk hks hkr
          have hne : k ≠ n := fun e => h1 (by rw [← e]; exact hkr)
          refine hbn.2.2 k (by omega) (List.suffix_of_suffix_length_le hks hs ?_)
          rw [List.length_take, List.length_take]
          omega) (fun q hq hq2 => hb q hq (by have := hbn.1; omega))
        exact ⟨by have := ih.1; have := hbn.1; omega, ih.2⟩
theorem Mq.grow {P : List Int} {bk : List Nat} {r : Int} {n : Nat} {X : List Int} (h : Mq P X n) (hb : ∀ q, 0 < q → q ≤ n → Bd P q (bk.getD q 0)) :
    gw P bk r (n + 1) n ≤ n + 1 ∧ P.take (gw P bk r (n + 1) n) <:+ X ++ [r] ∧ ∀ k, k ≤ P.length → P.take k <:+ X ++ [r] → k ≤ gw P bk r (n + 1) n :=
  gw_spec (n + 1) n X (by omega) h.1 h.2.1 (fun k hk hks _ => h.2.2 k hk hks) hb
def riv (P : List Int) : List Value := P.map (fun x => .int .i32 x)
set_option maxRecDepth 100000 in
set_option maxHeartbeats 4000000 in
theorem grow_any (B B' m : Nat) (vp vb : Value) (P : List Int) (bk : List Nat) (n : Nat) (r : Int) (w : World) (hp : w.ownsRow B 21 1 vp m (riv P)) (hb : w.ownsRow B' 3 1 vb (m + 1) (nsv bk)) (hn : n < m) (hm : m ≤ 1099511627776) (hbd : ∀ q, 0 < q → q ≤ n → bk.getD q 0 < q) :
    Calls Tryd.prog 76 #[vp, vb, .int .i64 (n : Int), .int .i32 r] w fun r' w' => r' = .returned (.int .i64 (gw P bk r (n + 1) n : Int)) ∧ w = w' := by
  obtain ⟨ap, cp, rfl, hpc, hpm⟩ := own_sl hp
  obtain ⟨ab, cb, rfl, hbc, hbm⟩ := own_sl hb
  have hPl : P.length = m := by have := hp.1; simpa [riv] using this
  have hBl : bk.length = m + 1 := by have := hb.1; simpa [nsv] using this
  have HP := hide hp
  have HB := hide hb
  have HPL := hide hPl
  have HBL := hide hBl
  have HBD := hide hbd
  obtain ⟨G, hG⟩ : ∃ G, gw P bk r (n + 1) n = G := ⟨_, rfl⟩
  have HG := hide hG
  have hmI : (m : Int) ≤ 1099511627776 := by omega
  rw [hG]
  clear hp hb hPl hBl hbd hG
  go_enter Tryd.func76, Tryd.ntmps76
  go_wp2_with fail
  go_loopw [2] (fun v wr => ∃ (k f : Nat), k ≤ n ∧ v = .int .i64 (k : Int) ∧ Hid (k < f ∧ gw P bk r f k = G) ∧ w = wr) (fun v _ => (intOf v).toNat)
  case atStart => exact ⟨n, n + 1, by omega, rfl, hide ⟨by omega, unhide HG⟩, rfl⟩
  case round =>
    clear HG
    obtain ⟨k, f, hk, rfl, HK, rfl⟩ := hrel
    have hkm : k < m := by omega
    obtain ⟨x, hx⟩ : ∃ x, P[k]? = some x := ⟨_, List.getElem?_eq_getElem (by rw [unhide HPL]; exact hkm)⟩
    obtain ⟨gp, c1, e1, hc1, _, _, _⟩ := own_rd (unhide HP) (i := k) (u := .int .i32 x) (by simp [riv, hx])
    injection e1 with e1 _ e2
    subst e1 e2
    obtain ⟨y, hy⟩ : ∃ y, bk[k]? = some y := ⟨_, List.getElem?_eq_getElem (by rw [unhide HBL]; omega)⟩
    obtain ⟨gb, c2, e3, hc2, _, _, _⟩ := own_rd (unhide HB) (i := k) (u := .int .i64 (y : Int)) (by simp [nsv, hy])
    injection e3 with e3 _ e4
    subst e3 e4
    have hxd : P.getD k 0 = x := by rw [List.getD_eq_getElem?_getD, hx]; rfl
    have hyd : bk.getD k 0 = y := by rw [List.getD_eq_getElem?_getD, hy]; rfl
    have HXD := hide hxd
    have HYD := hide hyd
    have k0 : (0 : Int) ≤ (k : Int) := by omega
    have kmI : (k : Int) < (m : Int) := by omega
    have kmI2 : (k : Int) < (m : Int) + 1 := by omega
    clear hx hy hxd hyd
    obtain ⟨f', rfl⟩ : ∃ f', f = f' + 1 := ⟨f - 1, by have := (unhide HK).1; omega⟩
    by_cases hz : k = 0
    · subst hz
      by_cases hr : x = r
      · have hr1 : (x == r) = true := by simp [hr]
        have hGv : G = 1 := by have h := (unhide HK).2; rw [gw, unhide HXD, if_pos hr] at h; exact h.symm
        clear hr
        go_wp2_with fail
        go_ret
        exact ⟨by first | rfl | simp, rfl⟩
      · have hr1 : (x == r) = false := by simp [hr]
        have hGv : G = 0 := by have h := (unhide HK).2; rw [gw, unhide HXD, if_neg hr, if_pos rfl] at h; exact h.symm
        clear hr
        go_wp2_with fail
        go_ret
        exact ⟨by first | rfl | simp, rfl⟩
    · have hz1 : (0 : Int) < (k : Int) := by omega
      by_cases hr : x = r
      · have hr1 : (x == r) = true := by simp [hr]
        have hr2 : (x != r) = false := by simp [hr]
        have hGv : G = k + 1 := by have h := (unhide HK).2; rw [gw, unhide HXD, if_pos hr] at h; exact h.symm
        clear hr
        go_wp2_with fail
        go_ret
        exact ⟨by first | rfl | simp, rfl⟩
      · have hr1 : (x == r) = false := by simp [hr]
        have hr2 : (x != r) = true := by simp [hr]
        have hyk : y < k := by have := unhide HBD k (by omega) hk; rw [unhide HYD] at this; exact this
        have HK2 : Hid (y < f' ∧ gw P bk r f' y = G) := hide (by have h := (unhide HK).2; rw [gw, unhide HXD, if_neg hr, if_neg hz, unhide HYD] at h; exact ⟨by have := (unhide HK).1; omega, h⟩)
        clear hr
        go_wp2_with fail
        exact ⟨⟨y, f', by omega, rfl, HK2, by trivial⟩, by simp [intOf]; omega⟩
end Go.Proofs.YtdnbhomjfgpcfaaDoor
