/- Parts of the walk: Sam, DB, DSt, DSw, DRp, Ru0. -/
import Derived.Test.YtonabfpgdgnpnaaDoorMz04
import Derived.Test.YtonabfpgdgnpnaaDoorMz07
import Derived.Test.YtonabfpgdgnpnaaDoorMz05
import Derived.Test.YtonabfpgdgnpnaaDoorMz02
namespace Go.Proofs.YtonabfpgdgnpnaaDoor
set_option linter.unusedVariables false
set_option linter.unusedSimpArgs false
open Go.ChangeShapes Go.WideShapes Go.ChangeAt Go.RowKit Go.Joins Go.Deep

set_option maxRecDepth 100000 in
set_option maxHeartbeats 4000000 in
theorem rsame_true (a b : Option Addr) (l : List Pt) (ca cb n : Nat) (w : World) (ha : PtsAt w a l) (hb : PtsAt w b l) (hn : l.length = n) (hc : n ≤ maxLen) :
    Calls Tryd.prog 15 #[.slice a n ca, .slice b n cb] w fun r w' => r = .returned (.bool true) ∧ Below w.heap.size w w' := by
  have HA := hide ha
  have HB := hide hb
  have HN := hide hn
  have nI : (n : Int) ≤ 9223372036854775807 := by unfold maxLen at hc; omega
  clear ha hb hn
  go_enter Tryd.func15, Tryd.ntmps15
  go_wp2_with fail
  go_loopw [13] (fun i wr => ∃ k : Nat, k ≤ n ∧ i = .int .i64 (k : Int) ∧ Hid (Below w.heap.size w wr)) (fun i _ => ((n : Int) - intOf i).toNat)
  case atStart => exact ⟨0, by omega, by simp, hide (Below.refl _ _)⟩
  case round =>
    obtain ⟨k, hk, rfl, HBW⟩ := hrel
    by_cases hlt : k < n
    · have kI : (k : Int) < (n : Int) := by omega
      obtain ⟨p, hpk⟩ : ∃ p, l[k]? = some p := ⟨_, List.getElem?_eq_getElem (by have := unhide HN; omega)⟩
      obtain ⟨b1, o1, rfl, e0, e1, e2⟩ := (unhide HA).at_ (unhide HBW) hpk
      obtain ⟨b2, o2, rfl, f0, f1, f2⟩ := (unhide HB).at_ (unhide HBW) hpk
      clear hpk
      go_wp2_with fail
      go_quiet (fail)
      have HBW2 := hide ((unhide HBW).trans ((Joins.below_draws _ _ nq).mono (unhide HBW).size))
      clear HBW
      go_wp2_with fail
      exact ⟨⟨k + 1, by omega, by simp, HBW2⟩, by simp [intOf]; omega⟩
    · obtain rfl : n = k := by omega
      have kI : ¬ (n : Int) < (n : Int) := by omega
      go_wp2_with fail
      go_ret
      exact ⟨rfl, unhide HBW⟩
theorem ed_traB {la lb : List Pt} {n t1 t2 : Nat} (h1 : IsEd la n t1) (h2 : IsEd lb n t2) : traB la lb = true := by
  unfold traB
  rw [ed_size h1]
  simp [ed_check h2]
theorem transform_at {w W : World} {a b : Option Addr} {la lb : List Pt} {ca cb na nb : Nat} (hU : UT W) (ha : Edit W a la ca) (hb' : Edit W b lb cb) (hna : la.length = na) (hnb : lb.length = nb) (hl : na + nb ≤ 1099511627776) (hb : Below w.heap.size w W) :
    Calls Tryd.prog 43 #[.slice a na ca, .slice b nb cb] W fun r w' => TraR W w' la lb r ∧ Below w.heap.size w w' := by
  subst hna hnb
  refine Calls.mono (transform_any a b la lb ca cb W hU ha.pts hb'.pts ha.at_ hb'.at_ ha.cap hb'.cap ha.max hb'.max ha.txt2 hb'.txt2 hl) ?_
  rintro r w' h
  exact ⟨h, hb.trans (h.2.mono hb.size)⟩
/-- Transform of two edits of one size, in the limit -/
theorem tra_ok {W w' : World} {la lb : List Pt} {r : Ending} {n ta tb : Nat} (h : TraR W w' la lb r) (h1 : IsEd la n ta) (h2 : IsEd lb n tb) : ∃ c1 c2, NfG 0 c1 ∧ NfG 0 c2 ∧ atomsL c1 = At.can (At.one (atomsL la) (atomsL lb)) ∧ atomsL c2 = At.can (At.two (atomsL la) (atomsL lb)) ∧ c1.length ≤ 2 * (la.length + lb.length) + 3 ∧ c2.length ≤ 2 * (la.length + lb.length) + 3 ∧
    At.fromN (atomsL c1) = tb ∧ At.fromN (atomsL c2) = ta ∧ At.toN (atomsL c1) = At.toN (atomsL c2) ∧
    (1099511627776 < At.toN (atomsL c1) ∧ r = .returned (.tuple #[.slice none 0 0, .slice none 0 0, .int .i64 4]) ∨ IsEd c1 tb (At.toN (atomsL c1)) ∧ IsEd c2 ta (At.toN (atomsL c1)) ∧ ∃ v1 v2, r = .returned (.tuple #[v1, v2, .int .i64 0]) ∧ OwnP w' W.heap.size v1 c1 ∧ OwnP w' W.heap.size v2 c2) := by
  obtain ⟨h, _⟩ := h
  have hs := At.sizes (atomsL la) (atomsL lb) (by rw [h1.2.1, h2.2.1])
  rcases h with ⟨h, _⟩ | ⟨_, c1, c2, n1, n2, e1, e2, m1, m2, h⟩
  · rw [ed_traB h1 h2] at h; cases h
  have f1 : At.fromN (atomsL c1) = tb := by rw [e1, ← At.fromN_sw (At.can_sw _), hs.1, h2.2.2.1]
  have f2 : At.fromN (atomsL c2) = ta := by rw [e2, ← At.fromN_sw (At.can_sw _), hs.2.1, h1.2.2.1]
  have t12 : At.toN (atomsL c1) = At.toN (atomsL c2) := by rw [e1, e2, ← At.toN_sw (At.can_sw _), ← At.toN_sw (At.can_sw _), hs.2.2.1]
  refine ⟨c1, c2, n1, n2, e1, e2, m1, m2, f1, f2, t12, ?_⟩
  by_cases hb : At.toN (atomsL c1) ≤ 1099511627776
  · have d1 : IsEd c1 tb (At.toN (atomsL c1)) := ⟨n1, f1, rfl, h2.2.2.2.2, hb⟩
    have d2 : IsEd c2 ta (At.toN (atomsL c1)) := ⟨n2, f2, t12.symm, h1.2.2.2.2, hb⟩
    rcases h with ⟨h, _⟩ | ⟨_, v1, v2, rfl, o1, o2⟩
    · rw [ed_size d1] at h; cases h
    · exact .inr ⟨d1, d2, v1, v2, rfl, o1, o2⟩
  · rcases h with ⟨h, rfl⟩ | ⟨h, _⟩
    · exact .inl ⟨by omega, rfl⟩
    · exfalso
      cases hz : sizeL c1 with
      | none => exact h hz
      | some x =>
        obtain ⟨f, t, k⟩ := x
        obtain ⟨hd, _, _⟩ := size_ed hz
        have := hd.2.2.2.2
        have := hd.2.2.1
        omega
end Go.Proofs.YtonabfpgdgnpnaaDoor

namespace Go.Proofs.YtonabfpgdgnpnaaDoor
set_option linter.unusedVariables false
set_option linter.unusedSimpArgs false
open Go.ChangeShapes Go.WideShapes Go.ChangeAt Go.RowKit Go.Joins Go.Deep

theorem info54 : ∃ i, Tryd.prog.info? 54 = some i ∧ i.zero = some (.slice none 0 0) ∧ i.size = 1 ∧ i.bytes = 24 := info_parts (by kernel_rfl)
def chkE (s : ByteArray) : Int := if Lib.validD s.data.toList = false then 21 else if 1024 < Lib.runeCount s then 4 else 0
def firstE : List ByteArray → Int
  | [] => 0
  | s :: l => if chkE s = 0 then firstE l else chkE s
def AllOk (l : List ByteArray) (k : Nat) : Prop := ∀ (i : Nat) s, i < k → l[i]? = some s → chkE s = 0
theorem AllOk.zero (l : List ByteArray) : AllOk l 0 := fun i s h => by omega
theorem AllOk.next {l : List ByteArray} {k : Nat} {s : ByteArray} (h : AllOk l k) (hs : l[k]? = some s) (he : chkE s = 0) : AllOk l (k + 1) := fun i t hi ht => by
  by_cases e : i = k
  · subst e
    rw [hs] at ht
    injection ht with e2
    rw [← e2]
    exact he
  · exact h i t (by omega) ht
theorem first_at : ∀ {l : List ByteArray} {k : Nat} {s : ByteArray}, AllOk l k → l[k]? = some s → chkE s ≠ 0 → firstE l = chkE s
  | [], k, s, _, h, _ => by simp at h
  | t :: l, 0, s, _, h, he => by
    simp at h
    subst h
    rw [firstE, if_neg he]
  | t :: l, k + 1, s, ha, h, he => by
    rw [firstE, if_pos (ha 0 t (by omega) rfl)]
    exact first_at (k := k) (fun i u hi hu => ha (i + 1) u (by omega) (by simpa using hu)) (by simpa using h) he
theorem first_all : ∀ {l : List ByteArray}, AllOk l l.length → firstE l = 0
  | [], _ => rfl
  | t :: l, ha => by
    rw [firstE, if_pos (ha 0 t (by simp) rfl)]
    exact first_all (fun i u hi hu => ha (i + 1) u (by simp; omega) (by simpa using hu))
theorem first_ok : ∀ {l : List ByteArray}, firstE l = 0 → ∀ s ∈ l, chkE s = 0
  | [], _, s, h => by cases h
  | t :: l, he, s, h => by
    rw [firstE] at he
    by_cases e : chkE t = 0
    · rw [if_pos e] at he
      rcases List.mem_cons.1 h with rfl | h
      · exact e
      · exact first_ok he s h
    · rw [if_neg e] at he
      exact absurd he e
theorem chk_ok {s : ByteArray} (h : chkE s = 0) : ∃ x, Tx s x ∧ x.length ≤ 1024 := by
  unfold chkE at h
  cases hv : Lib.validD s.data.toList with
  | false => rw [hv] at h; simp at h
  | true =>
    obtain ⟨x, hx⟩ := tx_of_valid hv
    refine ⟨x, hx, ?_⟩
    rw [hv, hx.count] at h
    simp at h
    omega
theorem chk_tx {s : ByteArray} {x : List CP} (h : Tx s x) : chkE s = if 1024 < x.length then 4 else 0 := by
  unfold chkE
  rw [h.valid, h.count]
  simp
theorem chk_no {s : ByteArray} (h : Lib.validD s.data.toList = false) : chkE s = 21 := by
  unfold chkE
  rw [if_pos h]
/-- texts that were read: a row of rows of runes -/
structure Rd (w : World) (B : Nat) (v : Value) (vs : List Value) (X : List (List CP)) : Prop where
  own : w.ownsRow B 54 1 v X.length vs
  each : ∀ (i : Nat) u x, vs[i]? = some u → X[i]? = some x → w.ownsRow B 21 1 u x.length (rnv x)
theorem Rd.len {w : World} {B : Nat} {v : Value} {vs : List Value} {X : List (List CP)} (h : Rd w B v vs X) : vs.length = X.length := by have := h.own.1; omega
theorem Rd.call {w w' : World} {B : Nat} {v : Value} {vs : List Value} {X : List (List CP)} (h : Rd w B v vs X) (hb : Below w.heap.size w w') : Rd w' B v vs X := ⟨own_call h.own hb, fun i u x h1 h2 => own_call (h.each i u x h1 h2) hb⟩
def TxAll (l : List ByteArray) (X : List (List CP)) : Prop := ∀ (i : Nat) s x, l[i]? = some s → X[i]? = some x → Tx s x ∧ x.length ≤ 1024
def ReadR (l : List ByteArray) (w : World) (r : Ending) (w' : World) : Prop := (firstE l ≠ 0 ∧ r = .returned (.tuple #[.slice none 0 0, .int .i64 (firstE l)]) ∨ firstE l = 0 ∧ ∃ v vs X, r = .returned (.tuple #[v, .int .i64 0]) ∧ Rd w' w.heap.size v vs X ∧ TxAll l X ∧ X.length = l.length) ∧ Below w.heap.size w w'
theorem app_get {α : Type} {l : List α} {a u : α} {i : Nat} (h : (l ++ [a])[i]? = some u) : l[i]? = some u ∨ i = l.length ∧ u = a := by
  by_cases hi : i < l.length
  · rw [List.getElem?_append_left hi] at h
    exact .inl h
  · rw [List.getElem?_append_right (by omega)] at h
    have : i - l.length = 0 := by
      have := (List.getElem?_eq_some_iff.1 h).1
      simp at this
      omega
    rw [this] at h
    simp at h
    exact .inr ⟨by omega, h.symm⟩
theorem TxAll.next {l : List ByteArray} {X : List (List CP)} {s : ByteArray} {x : List CP} (h : TxAll l X) (hs : l[X.length]? = some s) (hx : Tx s x) (hl : x.length ≤ 1024) : TxAll l (X ++ [x]) := fun i t y ht hy => by
  rcases app_get hy with hy | ⟨rfl, rfl⟩
  · exact h i t y ht hy
  · rw [hs] at ht
    injection ht with e
    subst e
    exact ⟨hx, hl⟩
structure RdI (w wr : World) (l : List ByteArray) (v : Value) (k : Nat) (vs : List Value) (X : List (List CP)) : Prop where
  rd : Rd wr w.heap.size v vs X
  tx : TxAll l X
  len : X.length = k
  ok : AllOk l k
  bel : Below w.heap.size w wr
set_option maxRecDepth 100000 in
set_option maxHeartbeats 4000000 in
theorem read_any (B : Nat) (v : Value) (l : List ByteArray) (w : World) (hT : UT w) (h : w.ownsRow B 9 1 v l.length (l.map .string)) (hl : l.length ≤ 1000) (hs : ∀ s ∈ l, s.size ≤ 1099511627776) : Calls Tryd.prog 29 #[v] w fun r w' => ReadR l w r w' := by
  obtain ⟨a, c, rfl, hc, hcm⟩ := own_sl h
  have HU : Hid (∀ W, Below w.heap.size w W → UT W) := hide (fun W h => hT.call h)
  have HO := hide h
  have HSZ := hide hs
  obtain ⟨n, hn⟩ : ∃ z, l.length = z := ⟨_, rfl⟩
  have HN := hide hn
  rw [hn] at HO hc hl ⊢
  have HI0 : Hid (RdI w w l (.slice none 0 0) 0 [] []) := hide ⟨⟨World.ownsRow_nil _ _ _ _, fun i u x h => by simp at h⟩, fun i s x _ h => by simp at h, rfl, AllOk.zero _, Below.refl _ _⟩
  clear hT h hs hn
  go_enter Tryd.func29, Tryd.ntmps29
  go_wp2_with fail
  go_loopw [4, 11] (fun ov kv wr => ∃ (k : Nat) (a2 : Option Addr) (c2 : Nat) (vs : List Value) (X : List (List CP)), k ≤ n ∧ kv = .int .i64 (k : Int) ∧ ov = .slice a2 k c2 ∧ Hid (RdI w wr l (.slice a2 k c2) k vs X)) (fun _ kv _ => ((n : Int) - intOf kv).toNat)
  case atStart => exact ⟨0, none, 0, [], [], by omega, by simp, rfl, HI0⟩
  case round =>
    clear HI0
    obtain ⟨k, a2, c2, vs, X, hk, rfl, rfl, HI⟩ := hrel
    by_cases c1 : (k : Int) < (n : Int)
    · obtain ⟨s, hs⟩ : ∃ s, l[k]? = some s := ⟨_, List.getElem?_eq_getElem (by rw [unhide HN]; omega)⟩
      have hO := own_call (unhide HO) (unhide HI).bel
      obtain ⟨gs, c3, e, hcell, _⟩ := own_rd hO (i := k) (u := .string s) (by simp [hs])
      injection e with e1 e2 e3
      clear e2
      subst e1 e3
      have hsz := unhide HSZ s (List.mem_of_getElem? hs)
      have KT := hide (trunes_any s 1024 wr (unhide HU _ (unhide HI).bel) (by omega))
      have HS := hide hs
      have k0 : (0 : Int) ≤ (k : Int) := by omega
      clear hs hO
      go_wp2_with fail
      refine Calls.mono (unhide KT) ?_
      rintro r w2 ⟨h2, b2⟩
      have hB2 := (unhide HI).bel.trans (b2.mono (unhide HI).bel.size)
      have HB2 := hide hB2
      have HRD := hide ((unhide HI).rd.call b2)
      have hBs := (unhide HI).bel.size
      have HBS := hide hBs
      clear b2 hB2 hBs KT hcell
      rcases h2 with ⟨hv, rfl⟩ | ⟨x, hx, ⟨h1, rfl⟩ | ⟨h1, u, rfl, ho, -⟩⟩
      · have hce := chk_no hv
        have hf : firstE l = 21 := by rw [first_at (unhide HI).ok (unhide HS) (by rw [hce]; decide), hce]
        have HF := hide hf
        clear hv hce hf
        go_wp2_with fail
        go_ret2
        exact ⟨.inl ⟨by rw [unhide HF]; decide, by rw [unhide HF]; rfl⟩, unhide HB2⟩
      · have hce := chk_tx hx
        rw [if_pos (by omega)] at hce
        have hf : firstE l = 4 := by rw [first_at (unhide HI).ok (unhide HS) (by rw [hce]; decide), hce]
        have HF := hide hf
        clear hx hce hf h1
        go_wp2_with fail
        go_ret2
        exact ⟨.inl ⟨by rw [unhide HF]; decide, by rw [unhide HF]; rfl⟩, unhide HB2⟩
      · have hce := chk_tx hx
        rw [if_neg (by omega)] at hce
        have HOK := hide ((unhide HI).ok.next (unhide HS) hce)
        have HTX := hide ((unhide HI).tx.next (by rw [(unhide HI).len]; exact unhide HS) hx (by omega))
        have HXL := hide (unhide HI).len
        obtain ⟨a5, c5, rfl, _, _⟩ := own_sl ho
        have HUO := hide (own_base ho (unhide HBS))
        obtain ⟨q, hq⟩ : ∃ z, x.length = z := ⟨_, rfl⟩
        have HQ := hide hq
        rw [hq] at HUO ⊢
        have hal : Below w2.heap.size w2 (w2.alloc (.cells #[.slice a5 q c5] 54)) := (Below.refl _ _).alloc (Nat.le_refl _) _
        have HB3 := hide ((unhide HB2).trans (hal.mono (unhide HB2).size))
        have HRD3 := hide ((unhide HRD).call hal)
        have HUO3 := hide (own_call (unhide HUO) hal)
        have HS2 : Hid ((w2.alloc (.cells #[.slice a5 q c5] 54)).ownsRow w.heap.size 54 1 (.slice a2 k c2) k vs) := hide (by have h9 := (unhide HRD3).own; rw [unhide HXL] at h9; exact h9)
        have HC2 := hide ((RowAt.new w2 54 [.slice a5 q c5]).cell 0)
        clear hal hx hce ho hq h1 HI HUO HRD HB2
        go_wp2_with (at_builtin; refine unhide ?_)
        obtain ⟨i9, hi9, hz9, hs9, hb9⟩ := info54
        refine hide ?_
        refine wpList_append_own_at _ rfl _ _ 50 rfl w.heap.size 54 i9 (.slice none 0 0) 1 24 Tryd.underlying50 hi9 hz9 hs9 hb9 rfl (by decide) (.slice a2 k c2) k vs rfl (unhide HS2) ⟨w2.heap.size, 0, none⟩ 1 1 [.slice a5 q c5] rfl rfl (fun j u hj => by
          match j, hj with
          | 0, hj =>
            obtain rfl : (.slice a5 q c5 : Value) = u := by simpa using hj
            exact unhide HC2) (fun u hu => by rw [List.mem_singleton] at hu; rw [hu]; rfl) (by unfold maxLen; omega) (by omega) (unhide HB3).size ?_
        intro v' w3 ho hg _ _
        obtain ⟨a3, c3, rfl, _⟩ := own_sl ho
        have o3 := grown_only hg
        have HR3 : Hid (RdI w w3 l (.slice a3 (k + 1) c3) (k + 1) (vs ++ [.slice a5 q c5]) (X ++ [x])) := hide ⟨⟨by rw [List.length_append, unhide HXL]; exact ho, fun i u y hu hy => by
          rcases app_get hu with hu | ⟨hiu, rfl⟩
          · rcases app_get hy with hy | ⟨hiy, rfl⟩
            · have h9 := (unhide HRD3).each i u y hu hy
              exact own_only h9 o3 (fun q hq hp => own_ne h9 (unhide HS2) (by decide) q hq hp)
            · exfalso
              have h8 := (List.getElem?_eq_some_iff.1 hu).1
              have h7 := (unhide HRD3).len
              omega
          · have h7 := (unhide HRD3).len
            rw [h7] at hiu
            rcases app_get hy with hy | ⟨hiy, rfl⟩
            · exfalso
              have h8 := (List.getElem?_eq_some_iff.1 hy).1
              omega
            · have h9 := unhide HUO3
              rw [unhide HQ]
              exact own_only h9 o3 (fun q hq hp => own_ne h9 (unhide HS2) (by decide) q hq hp)⟩, unhide HTX, by rw [List.length_append, unhide HXL]; rfl, unhide HOK, (unhide HB3).trans (o3.below (unhide HB3).size (fun q hq => ((unhide HS2).lt q hq).1))⟩
        clear ho hg o3 HS2 HC2 HRD3 HUO3 HB3 i9 hi9 hz9 hs9 hb9
        go_wp2_with fail
        exact ⟨⟨k + 1, a3, c3, _, _, by omega, by simp, by simp, HR3⟩, by simp [intOf]; omega⟩
    · obtain rfl : n = k := by omega
      have HF := hide (first_all (by rw [unhide HN]; exact (unhide HI).ok))
      go_wp2_with fail
      go_ret2
      exact ⟨.inr ⟨unhide HF, _, _, _, rfl, (unhide HI).rd, (unhide HI).tx, by rw [(unhide HI).len, unhide HN]⟩, (unhide HI).bel⟩
end Go.Proofs.YtonabfpgdgnpnaaDoor

namespace Go.Proofs.YtonabfpgdgnpnaaDoor
set_option linter.unusedVariables false
set_option linter.unusedSimpArgs false
open Go.ChangeShapes Go.WideShapes Go.ChangeAt Go.RowKit Go.Joins Go.Deep

theorem two_get {α : Type} {l : List α} (h : l.length = 2) : ∃ a b, l = [a, b] := by
  match l, h with
  | [a, b], _ => exact ⟨a, b, rfl⟩
theorem three_get {α : Type} {l : List α} (h : l.length = 3) : ∃ a b c, l = [a, b, c] := by
  match l, h with
  | [a, b, c], _ => exact ⟨a, b, c, rfl⟩
theorem LeadR.shape {x y : List CP} {w w' : World} {r : Ending} (h : LeadR x y w r w') : ∃ a l c, r = .returned (.slice a l.length c) ∧ OwnP w' w.heap.size (.slice a l.length c) l ∧ NfG 0 l ∧ atomsL l = At.can (leadA x y) ∧ Below w.heap.size w w' := by
  obtain ⟨v, l, h1, h2, h3, h4, h5⟩ := h
  obtain ⟨a, c, rfl, _, _⟩ := own_sl3 h2
  exact ⟨a, l, c, h1, h2, h3, h4, h5⟩
theorem TabR.shape {x y : List CP} {va vb : Value} {w w' : World} {r : Ending} (h : TabR x y va vb w r w') : ∃ Ba Bb vm M, r = .returned (.agg #[va, vb, vm]) ∧ Tb w' Ba Bb w.heap.size va vb vm x y M ∧ TF x y M ∧ Below w.heap.size w w' := h
def DiffR (a b : ByteArray) (w : World) (r : Ending) (w' : World) : Prop := (firstE [a, b] ≠ 0 ∧ r = .returned (.tuple #[.slice none 0 0, .int .i64 (firstE [a, b])]) ∨ firstE [a, b] = 0 ∧ ∃ x y v l, Tx a x ∧ Tx b y ∧ x.length ≤ 1024 ∧ y.length ≤ 1024 ∧ r = .returned (.tuple #[v, .int .i64 0]) ∧ OwnP w' w.heap.size v l ∧ NfG 0 l ∧ atomsL l = At.can (leadA x y)) ∧ Below w.heap.size w w'
def KeptR (a b : ByteArray) (w : World) (r : Ending) (w' : World) : Prop := (firstE [a, b] ≠ 0 ∧ r = .returned (.tuple #[.int .i64 0, .int .i64 (firstE [a, b])]) ∨ firstE [a, b] = 0 ∧ ∃ x y, Tx a x ∧ Tx b y ∧ x.length ≤ 1024 ∧ y.length ≤ 1024 ∧ r = .returned (.tuple #[.int .i64 (lcs x y : Int), .int .i64 0])) ∧ Below w.heap.size w w'
theorem first_i64 (l : List ByteArray) : firstE l = 0 ∨ firstE l = 4 ∨ firstE l = 21 := by
  induction l with
  | nil => exact .inl rfl
  | cons s l ih =>
    rw [firstE]
    by_cases h : chkE s = 0
    · rw [if_pos h]
      exact ih
    · rw [if_neg h]
      unfold chkE at h ⊢
      split
      · simp
      · split
        · simp
        · rename_i h1 h2
          rw [if_neg h1, if_neg h2] at h
          exact absurd rfl h
set_option maxRecDepth 100000 in
set_option maxHeartbeats 4000000 in
theorem diff_any (a b : ByteArray) (w : World) (hT : UT w) (hsa : a.size ≤ 1099511627776) (hsb : b.size ≤ 1099511627776) : Calls Tryd.prog 13 #[.string a, .string b] w fun r w' => DiffR a b w r w' := by
  have HU : Hid (∀ W, Below w.heap.size w W → UT W) := hide (fun W h => hT.call h)
  have bP : Below w.heap.size w (w.alloc (.cells #[.string a, .string b] 9)) := (Below.refl _ _).alloc (Nat.le_refl _) _
  have KR := hide (read_any w.heap.size (.slice (some ⟨w.heap.size, 0, none⟩) 2 2) [a, b] (w.alloc (.cells #[.string a, .string b] 9)) (hT.call bP) (own_row (RowAt.new w 9 [.string a, .string b]) (Nat.le_refl _) (by show 2 ≤ maxLen; unfold maxLen; omega)) (by simp) (by simp only [List.mem_cons, List.not_mem_nil, or_false]; rintro s (rfl | rfl) <;> assumption))
  have B1 := hide bP
  obtain ⟨w1, hw1⟩ : ∃ z, w.alloc (.cells #[.string a, .string b] 9) = z := ⟨_, rfl⟩
  have HW1 := hide hw1
  rw [hw1] at KR B1
  clear hT bP hw1
  go_enter Tryd.func13, Tryd.ntmps13
  go_wp2_with fail
  try rw [unhide HW1]
  clear HW1
  refine Calls.mono (unhide KR) ?_
  rintro r w2 ⟨h2, b2⟩
  have B2 := hide ((unhide B1).trans (b2.mono (unhide B1).size))
  have hBs := (unhide B1).size
  clear b2 KR
  rcases h2 with ⟨hf, rfl⟩ | ⟨hf, v, vs, X, rfl, hrd, htx, hxl⟩
  · obtain ⟨e, he⟩ : ∃ z, firstE [a, b] = z := ⟨_, rfl⟩
    have HE := hide he
    have he0 : (e != 0) = true := by rw [← he]; simp [hf]
    have HF := hide hf
    rw [he]
    clear hf he
    go_wp2_with fail
    go_ret2
    exact ⟨.inl ⟨unhide HF, by rw [unhide HE]; rfl⟩, unhide B2⟩
  · obtain ⟨x, y, rfl⟩ := two_get hxl
    have hvl := hrd.len
    obtain ⟨u0, u1, rfl⟩ := two_get hvl
    obtain ⟨ht0, hl0⟩ := htx 0 _ _ rfl rfl
    have ho0 := hrd.each 0 _ _ rfl rfl
    obtain ⟨a0, c0, rfl, _, _⟩ := own_sl ho0
    obtain ⟨ht1, hl1⟩ := htx 1 _ _ rfl rfl
    have ho1 := hrd.each 1 _ _ rfl rfl
    obtain ⟨a1, c1, rfl, _, _⟩ := own_sl ho1
    obtain ⟨gl, cl, rfl, hc0, -, hlc, hlm⟩ := own_rd hrd.own (i := 0) rfl
    have hc1 : w2.cell? ⟨gl, 1, none⟩ = some (.slice a1 y.length c1) := row_cell (n := 2) (by exact hrd.own) rfl
    have KL := hide (fun W (hb : Below w2.heap.size w2 W) => lead_any (unhide HU W ((unhide B2).trans (hb.mono (unhide B2).size))) (own_call ho0 hb) (own_call ho1 hb) ht0.cps ht1.cps hl0 hl1)
    have HT := hide (And.intro hf (And.intro ht0 (And.intro ht1 (And.intro hl0 hl1))))
    have HS : Hid (∀ W, Below w2.heap.size w2 W → W.cell? ⟨gl, 0, none⟩ = some (.slice a0 x.length c0) ∧ W.cell? ⟨gl, 1, none⟩ = some (.slice a1 y.length c1)) := hide (fun W hW => ⟨kept hW hc0, kept hW hc1⟩)
    have k0 : Below w2.heap.size w2 w2.drew := (Below.refl _ _).drew
    obtain ⟨n, hn⟩ : ∃ z, x.length = z := ⟨_, rfl⟩
    obtain ⟨m, hm⟩ : ∃ z, y.length = z := ⟨_, rfl⟩
    rw [hn, hm] at KL HS
    rw [show ([x, y] : List (List CP)).length = 2 from rfl] at *
    clear hf hrd htx hxl hvl ht0 ht1 hl0 hl1 ho0 ho1 hc0 hc1 hn hm
    go_wp2_with fail
    go_region_held3 (fun W => W.cell? ⟨gl, 0, none⟩ = some (.slice a0 n c0) ∧ W.cell? ⟨gl, 1, none⟩ = some (.slice a1 m c1))
      (first | exact unhide HS _ k0 | exact unhide HS _ k1)
      (first | (go_at_call 30; with_reducible refine Calls.mono (unhide KL _ k0) ?_; rintro e w3 h3; obtain ⟨a3, l3, c3, rfl, o3, nf3, at3, b3⟩ := LeadR.shape h3; have k1 : Below w2.heap.size w2 w3 := k0.trans (b3.mono k0.size)))
    have HO := hide (own_base o3 (show w.heap.size ≤ w2.drew.heap.size from (unhide B2).size))
    have B3 := hide ((unhide B2).trans (k1.mono (unhide B2).size))
    have HA := hide (And.intro nf3 at3)
    clear k0 k1 b3 o3 nf3 at3 HS KL
    go_wp2_with fail
    go_ret2
    exact ⟨.inr ⟨(unhide HT).1, x, y, _, _, (unhide HT).2.1, (unhide HT).2.2.1, (unhide HT).2.2.2.1, (unhide HT).2.2.2.2, rfl, unhide HO, (unhide HA).1, (unhide HA).2⟩, unhide B3⟩
set_option maxRecDepth 100000 in
set_option maxHeartbeats 4000000 in
theorem kept2_any (a b : ByteArray) (w : World) (hT : UT w) (hsa : a.size ≤ 1099511627776) (hsb : b.size ≤ 1099511627776) : Calls Tryd.prog 16 #[.string a, .string b] w fun r w' => KeptR a b w r w' := by
  have HU : Hid (∀ W, Below w.heap.size w W → UT W) := hide (fun W h => hT.call h)
  have bP : Below w.heap.size w (w.alloc (.cells #[.string a, .string b] 9)) := (Below.refl _ _).alloc (Nat.le_refl _) _
  have KR := hide (read_any w.heap.size (.slice (some ⟨w.heap.size, 0, none⟩) 2 2) [a, b] (w.alloc (.cells #[.string a, .string b] 9)) (hT.call bP) (own_row (RowAt.new w 9 [.string a, .string b]) (Nat.le_refl _) (by show 2 ≤ maxLen; unfold maxLen; omega)) (by simp) (by simp only [List.mem_cons, List.not_mem_nil, or_false]; rintro s (rfl | rfl) <;> assumption))
  have B1 := hide bP
  obtain ⟨w1, hw1⟩ : ∃ z, w.alloc (.cells #[.string a, .string b] 9) = z := ⟨_, rfl⟩
  have HW1 := hide hw1
  rw [hw1] at KR B1
  clear hT bP hw1
  go_enter Tryd.func16, Tryd.ntmps16
  go_wp2_with fail
  try rw [unhide HW1]
  clear HW1
  refine Calls.mono (unhide KR) ?_
  rintro r w2 ⟨h2, b2⟩
  have B2 := hide ((unhide B1).trans (b2.mono (unhide B1).size))
  have hBs := (unhide B1).size
  clear b2 KR
  rcases h2 with ⟨hf, rfl⟩ | ⟨hf, v, vs, X, rfl, hrd, htx, hxl⟩
  · obtain ⟨e, he⟩ : ∃ z, firstE [a, b] = z := ⟨_, rfl⟩
    have HE := hide he
    have he0 : (e != 0) = true := by rw [← he]; simp [hf]
    have HF := hide hf
    rw [he]
    clear hf he
    go_wp2_with fail
    go_ret2
    exact ⟨.inl ⟨unhide HF, by rw [unhide HE]; rfl⟩, unhide B2⟩
  · obtain ⟨x, y, rfl⟩ := two_get hxl
    have hvl := hrd.len
    obtain ⟨u0, u1, rfl⟩ := two_get hvl
    obtain ⟨ht0, hl0⟩ := htx 0 _ _ rfl rfl
    have ho0 := hrd.each 0 _ _ rfl rfl
    obtain ⟨a0, c0, rfl, _, _⟩ := own_sl ho0
    obtain ⟨ht1, hl1⟩ := htx 1 _ _ rfl rfl
    have ho1 := hrd.each 1 _ _ rfl rfl
    obtain ⟨a1, c1, rfl, _, _⟩ := own_sl ho1
    obtain ⟨gl, cl, rfl, hc0, -, hlc, hlm⟩ := own_rd hrd.own (i := 0) rfl
    have hc1 : w2.cell? ⟨gl, 1, none⟩ = some (.slice a1 y.length c1) := row_cell (n := 2) (by exact hrd.own) rfl
    have KL := hide (fun W (hb : Below w2.heap.size w2 W) => table_any (own_call ho0 hb) (own_call ho1 hb) ht0.cps ht1.cps hl0 hl1)
    have HT := hide (And.intro hf (And.intro ht0 (And.intro ht1 (And.intro hl0 hl1))))
    have HS : Hid (∀ W, Below w2.heap.size w2 W → W.cell? ⟨gl, 0, none⟩ = some (.slice a0 x.length c0) ∧ W.cell? ⟨gl, 1, none⟩ = some (.slice a1 y.length c1)) := hide (fun W hW => ⟨kept hW hc0, kept hW hc1⟩)
    have k0 : Below w2.heap.size w2 w2.drew := (Below.refl _ _).drew
    have hsm := lcs_small (y := y) hl0 0 0
    rw [List.drop_zero, List.drop_zero] at hsm
    have HLM := hide hsm
    have KK : Hid (∀ W vm M Ba Bb Bm, Tb W Ba Bb Bm (.slice a0 x.length c0) (.slice a1 y.length c1) vm x y M → TF x y M → Calls Tryd.prog 36 #[.agg #[.slice a0 x.length c0, .slice a1 y.length c1, vm], .int .i64 0, .int .i64 0] W fun r w' => r = .returned (.int .i64 (lcs x y : Int)) ∧ Below W.heap.size W w') := hide (fun W vm M Ba Bb Bm ht hF => by
      have h9 := kept_any ht (i := 0) (j := 0) (by omega) (by omega) (hF 0 0 (by omega) (by omega)) (by rw [List.drop_zero, List.drop_zero]; omega)
      rw [List.drop_zero, List.drop_zero] at h9
      exact h9)
    obtain ⟨n, hn⟩ : ∃ z, x.length = z := ⟨_, rfl⟩
    obtain ⟨m, hm⟩ : ∃ z, y.length = z := ⟨_, rfl⟩
    rw [hn, hm] at KL HS KK
    rw [show ([x, y] : List (List CP)).length = 2 from rfl] at *
    obtain ⟨k, hk⟩ : ∃ z, lcs x y = z := ⟨_, rfl⟩
    have HK := hide hk
    rw [hk] at KK
    clear hf hrd htx hxl hvl ht0 ht1 hl0 hl1 ho0 ho1 hc0 hc1 hn hm hsm hk
    go_wp2_with fail
    go_region_held3 (fun W => W.cell? ⟨gl, 0, none⟩ = some (.slice a0 n c0) ∧ W.cell? ⟨gl, 1, none⟩ = some (.slice a1 m c1))
      (first | exact unhide HS _ k0 | exact unhide HS _ k2 | exact unhide HS _ k1)
      (first | (go_at_call 35; with_reducible refine Calls.mono (unhide KL _ k0) ?_; rintro e w3 h3; obtain ⟨Ba3, Bb3, vm3, M3, rfl, t3, F3, b3⟩ := TabR.shape h3; have k1 : Below w2.heap.size w2 w3 := k0.trans (b3.mono k0.size)) | (go_at_call 36; with_reducible refine Calls.mono (unhide KK _ _ _ _ _ _ t3 F3) ?_; rintro e w4 ⟨rfl, b4⟩; have k2 : Below w2.heap.size w2 w4 := k1.trans (b4.mono k1.size)))
    have B3 := hide ((unhide B2).trans (k2.mono (unhide B2).size))
    clear k0 k1 k2 b3 b4 t3 F3 HS KL KK
    go_wp2_with fail
    go_ret2
    exact ⟨.inr ⟨(unhide HT).1, x, y, (unhide HT).2.1, (unhide HT).2.2.1, (unhide HT).2.2.2.1, (unhide HT).2.2.2.2, by rw [unhide HK]; rfl⟩, unhide B3⟩
end Go.Proofs.YtonabfpgdgnpnaaDoor

namespace Go.Proofs.YtonabfpgdgnpnaaDoor
set_option linter.unusedVariables false
set_option linter.unusedSimpArgs false
open Go.ChangeShapes Go.WideShapes Go.ChangeAt Go.RowKit Go.Joins Go.Deep

theorem nf_few : ∀ {l : List Pt} {a : Int}, NfG a l → l.length ≤ (atomsL l).length
  | [], _, _ => by simp
  | p :: l, a, h => by
    have hg := h.1
    have h1 := hg.len.2
    have h2 := hg.1
    have ih := nf_few h.2.2.2
    rw [atomsL, List.length_append, List.length_cons, h1]
    omega
theorem can_len2 (x : List At) : (At.can x).length = x.length := by
  have h : ∀ (x : List At) (ps : List (List UInt8)) (n : Nat), (At.canG ps n x).length = ps.length + n + x.length := by
    intro x
    induction x with
    | nil => intro ps n; simp [At.canG]
    | cons s x ih =>
      intro ps n
      cases s with
      | k => simp [At.canG, ih]; omega
      | d => simp [At.canG, ih]; omega
      | p c => simp [At.canG, ih]; omega
  unfold At.can
  rw [h]
  simp
theorem lead_ed {l : List Pt} {x y : List CP} (nf : NfG 0 l) (e : atomsL l = At.can (leadA x y)) (hx : x.length ≤ 1024) (hy : y.length ≤ 1024) : IsEd l x.length y.length ∧ l.length ≤ 2048 := by
  have li := lead_is x y
  refine ⟨⟨nf, ?_, ?_, by omega, by omega⟩, ?_⟩
  · rw [e, ← At.fromN_sw (At.can_sw _), li.frm]
  · rw [e, ← At.toN_sw (At.can_sw _), li.to_]
  · have h1 := nf_few nf
    have h2 := lead_len _ x y (Nat.le_refl _)
    rw [e, can_len2] at h1
    omega
theorem own_ed {w : World} {B : Nat} {a : Option Addr} {l : List Pt} {c n m : Nat} (h : OwnP w B (.slice a l.length c) l) (he : IsEd l n m) (hl : l.length ≤ 4398046511104) : Edit w a l c := by
  obtain ⟨a2, c2, e, h2⟩ := h.edit (ed_txt he) hl
  injection e with e1 _ e3
  subst e1 e3
  exact h2
def MTr (x y z : List CP) (W : World) (r : Ending) (w' : World) : Prop := ∃ v1 a5 c2 c5, r = .returned (.tuple #[v1, .slice a5 c2.length c5, .int .i64 0]) ∧ OwnP w' W.heap.size (.slice a5 c2.length c5) c2 ∧ IsEd c2 y.length (At.toN (atomsL c2)) ∧ c2.length ≤ 100000 ∧ atomsL c2 = At.can (At.two (At.can (leadA x y)) (At.can (leadA x z))) ∧ Below W.heap.size W w'
theorem MTr.shape {x y z : List CP} {W w' : World} {r : Ending} (h : MTr x y z W r w') : ∃ v1 a5 c2 c5, r = .returned (.tuple #[v1, .slice a5 c2.length c5, .int .i64 0]) ∧ OwnP w' W.heap.size (.slice a5 c2.length c5) c2 ∧ IsEd c2 y.length (At.toN (atomsL c2)) ∧ c2.length ≤ 100000 ∧ atomsL c2 = At.can (At.two (At.can (leadA x y)) (At.can (leadA x z))) ∧ Below W.heap.size W w' := h
theorem merge_tra {W : World} {B3 B4 : Nat} {a3 a4 : Option Addr} {l3 l4 : List Pt} {c3 c4 : Nat} {x y z : List CP} (hU : UT W) (o3 : OwnP W B3 (.slice a3 l3.length c3) l3) (n3 : NfG 0 l3) (e3 : atomsL l3 = At.can (leadA x y)) (o4 : OwnP W B4 (.slice a4 l4.length c4) l4) (n4 : NfG 0 l4) (e4 : atomsL l4 = At.can (leadA x z)) (hx : x.length ≤ 1024) (hy : y.length ≤ 1024) (hz : z.length ≤ 1024) :
    Calls Tryd.prog 43 #[.slice a3 l3.length c3, .slice a4 l4.length c4] W fun r w' => MTr x y z W r w' := by
  obtain ⟨d3, k3⟩ := lead_ed n3 e3 hx hy
  obtain ⟨d4, k4⟩ := lead_ed n4 e4 hx hz
  refine Calls.mono (transform_at hU (own_ed o3 d3 (by omega)) (own_ed o4 d4 (by omega)) rfl rfl (by omega) (Below.refl _ _)) ?_
  rintro r w' ⟨h, hb⟩
  obtain ⟨c1, c2, g1, g2, f1, f2, m1, m2, s1, s2, s3, h⟩ := tra_ok h d3 d4
  have hp := (At.sizes (atomsL l3) (atomsL l4) (by rw [d3.2.1, d4.2.1]))
  have hto : At.toN (atomsL c1) ≤ 4096 := by
    have q1 := from_to (At.one (atomsL l3) (atomsL l4))
    have q2 := from_to (leadA x y)
    have li := lead_is x y
    rw [hp.1, hp.2.2.2.1, e3, ← At.putsN_sw (At.can_sw _), d4.2.2.1] at q1
    have q4 := li.puts
    rw [f1, ← At.toN_sw (At.can_sw _), e3]
    omega
  rcases h with ⟨h, _⟩ | ⟨_, h2, v1, v2, rfl, _, o2⟩
  · omega
  · obtain ⟨a5, c5, rfl, _, _⟩ := own_sl3 o2
    refine ⟨v1, a5, c2, c5, rfl, o2, ?_, by omega, by rw [f2, e3, e4], hb⟩
    rw [← s3]
    exact h2
def MergeR (b a c : ByteArray) (w : World) (r : Ending) (w' : World) : Prop := (firstE [b, a, c] ≠ 0 ∧ r = .returned (.tuple #[.string ⟨#[]⟩, .int .i64 (firstE [b, a, c])]) ∨ firstE [b, a, c] = 0 ∧ ∃ x y z S, Tx b x ∧ Tx a y ∧ Tx c z ∧ x.length ≤ 1024 ∧ y.length ≤ 1024 ∧ z.length ≤ 1024 ∧ r = .returned (.tuple #[.string S, .int .i64 0]) ∧ Tx S (At.app (At.can (At.two (At.can (leadA x y)) (At.can (leadA x z)))) y)) ∧ Below w.heap.size w w'
set_option maxRecDepth 100000 in
set_option maxHeartbeats 4000000 in
theorem merge_any (a b c : ByteArray) (w : World) (hT : UT w) (hsa : a.size ≤ 1099511627776) (hsb : b.size ≤ 1099511627776) (hsc : c.size ≤ 1099511627776) : Calls Tryd.prog 22 #[.string a, .string b, .string c] w fun r w' => MergeR a b c w r w' := by
  have HU : Hid (∀ W, Below w.heap.size w W → UT W) := hide (fun W h => hT.call h)
  have bP : Below w.heap.size w (w.alloc (.cells #[.string a, .string b, .string c] 9)) := (Below.refl _ _).alloc (Nat.le_refl _) _
  have KR := hide (read_any w.heap.size (.slice (some ⟨w.heap.size, 0, none⟩) 3 3) [a, b, c] (w.alloc (.cells #[.string a, .string b, .string c] 9)) (hT.call bP) (own_row (RowAt.new w 9 [.string a, .string b, .string c]) (Nat.le_refl _) (by show 3 ≤ maxLen; unfold maxLen; omega)) (by simp) (by simp only [List.mem_cons, List.not_mem_nil, or_false]; rintro s (rfl | rfl | rfl) <;> assumption))
  have B1 := hide bP
  obtain ⟨w1, hw1⟩ : ∃ z, w.alloc (.cells #[.string a, .string b, .string c] 9) = z := ⟨_, rfl⟩
  have HW1 := hide hw1
  rw [hw1] at KR B1
  clear hT bP hw1
  go_enter Tryd.func22, Tryd.ntmps22
  go_wp2_with fail
  try rw [unhide HW1]
  clear HW1
  refine Calls.mono (unhide KR) ?_
  rintro r w2 ⟨h2, b2⟩
  have B2 := hide ((unhide B1).trans (b2.mono (unhide B1).size))
  have hBs := (unhide B1).size
  clear b2 KR
  rcases h2 with ⟨hf, rfl⟩ | ⟨hf, v, vs, X, rfl, hrd, htx, hxl⟩
  · obtain ⟨e, he⟩ : ∃ z, firstE [a, b, c] = z := ⟨_, rfl⟩
    have HE := hide he
    have he0 : (e != 0) = true := by rw [← he]; simp [hf]
    have HF := hide hf
    rw [he]
    clear hf he
    go_wp2_with fail
    go_ret2
    exact ⟨.inl ⟨unhide HF, by rw [unhide HE]; rfl⟩, unhide B2⟩
  · obtain ⟨x, y, z, rfl⟩ := three_get hxl
    have hvl := hrd.len
    obtain ⟨u0, u1, u2, rfl⟩ := three_get hvl
    obtain ⟨ht0, hl0⟩ := htx 0 _ _ rfl rfl
    have ho0 := hrd.each 0 _ _ rfl rfl
    obtain ⟨a0, c0, rfl, _, _⟩ := own_sl ho0
    obtain ⟨ht1, hl1⟩ := htx 1 _ _ rfl rfl
    have ho1 := hrd.each 1 _ _ rfl rfl
    obtain ⟨a1, c1, rfl, _, _⟩ := own_sl ho1
    obtain ⟨ht2, hl2⟩ := htx 2 _ _ rfl rfl
    have ho2 := hrd.each 2 _ _ rfl rfl
    obtain ⟨a2, c2, rfl, _, _⟩ := own_sl ho2
    obtain ⟨gl, cl, rfl, hc0, -, hlc, hlm⟩ := own_rd hrd.own (i := 0) rfl
    have hc1 : w2.cell? ⟨gl, 1, none⟩ = some (.slice a1 y.length c1) := row_cell (n := 3) (by exact hrd.own) rfl
    have hc2 : w2.cell? ⟨gl, 2, none⟩ = some (.slice a2 z.length c2) := row_cell (n := 3) (by exact hrd.own) rfl
    have KL := hide (fun W (hb : Below w2.heap.size w2 W) => lead_any (unhide HU W ((unhide B2).trans (hb.mono (unhide B2).size))) (own_call ho0 hb) (own_call ho1 hb) ht0.cps ht1.cps hl0 hl1)
    have KM := hide (fun W (hb : Below w2.heap.size w2 W) => lead_any (unhide HU W ((unhide B2).trans (hb.mono (unhide B2).size))) (own_call ho0 hb) (own_call ho2 hb) ht0.cps ht2.cps hl0 hl2)
    have HT := hide (And.intro hf (And.intro ht0 (And.intro ht1 (And.intro ht2 (And.intro hl0 (And.intro hl1 hl2))))))
    have HS : Hid (∀ W, Below w2.heap.size w2 W → W.cell? ⟨gl, 0, none⟩ = some (.slice a0 x.length c0) ∧ W.cell? ⟨gl, 1, none⟩ = some (.slice a1 y.length c1) ∧ W.cell? ⟨gl, 2, none⟩ = some (.slice a2 z.length c2)) := hide (fun W hW => ⟨kept hW hc0, kept hW hc1, kept hW hc2⟩)
    have k0 : Below w2.heap.size w2 w2.drew := (Below.refl _ _).drew
    obtain ⟨n, hn⟩ : ∃ z, x.length = z := ⟨_, rfl⟩
    obtain ⟨m, hm⟩ : ∃ z, y.length = z := ⟨_, rfl⟩
    obtain ⟨q, hq⟩ : ∃ u, z.length = u := ⟨_, rfl⟩
    rw [hn, hm] at KL
    rw [hn, hq] at KM
    rw [hn, hm, hq] at HS
    rw [show ([x, y, z] : List (List CP)).length = 3 from rfl] at *
    clear hf hrd htx hxl hvl ht0 ht1 ht2 hl0 hl1 hl2 ho0 ho1 ho2 hc0 hc1 hc2 hn hm hq
    go_wp2_with fail
    go_region_held3 (fun W => W.cell? ⟨gl, 0, none⟩ = some (.slice a0 n c0) ∧ W.cell? ⟨gl, 1, none⟩ = some (.slice a1 m c1) ∧ W.cell? ⟨gl, 2, none⟩ = some (.slice a2 q c2))
      (first | exact unhide HS _ k0 | exact unhide HS _ k3 | exact unhide HS _ k2 | exact unhide HS _ k1)
      (first | ((fail_if_success (have := k1)); go_at_call 30; with_reducible refine Calls.mono (unhide KL _ k0) ?_; rintro e w3 h3; obtain ⟨a3, l3, c3, rfl, o3, nf3, at3, b3⟩ := LeadR.shape h3; have k1 : Below w2.heap.size w2 w3 := k0.trans (b3.mono k0.size)) | (go_at_call 30; with_reducible refine Calls.mono (unhide KM _ k1) ?_; rintro e w4 h4; obtain ⟨a4, l4, c4, rfl, o4, nf4, at4, b4⟩ := LeadR.shape h4; have k2 : Below w2.heap.size w2 w4 := k1.trans (b4.mono k1.size)) | (go_at_call 43; with_reducible refine Calls.mono (merge_tra (unhide HU _ ((unhide B2).trans (k2.mono (unhide B2).size))) (OwnP.call o3 b4) nf3 at3 o4 nf4 at4 (unhide HT).2.2.2.2.1 (unhide HT).2.2.2.2.2.1 (unhide HT).2.2.2.2.2.2) ?_; rintro e w5 h5; obtain ⟨v1, a5, l5, c5, rfl, o5, ed5, len5, at5, b5⟩ := MTr.shape h5; have k3 : Below w2.heap.size w2 w5 := k2.trans (b5.mono k2.size)))
    have B5 := hide ((unhide B2).trans (k3.mono (unhide B2).size))
    obtain ⟨ap5, cap5, e5, hp5, hl5, hm5⟩ := o5.slice
    injection e5 with e51 e52 e53
    clear e52
    subst e51 e53
    have KA := hide (apply_ed (c := c5) (unhide HU _ (unhide B5)) hp5 (by omega) (unhide HT).2.2.1 ed5)
    have HA5 := hide at5
    clear k0 k1 k2 k3 b3 b4 b5 o3 o4 o5 nf3 nf4 at3 at4 at5 ed5 hp5 hl5 hm5 len5 HS KL KM
    go_wp2_with fail
    refine Calls.mono (unhide KA) ?_
    rintro r w6 ⟨S, rfl, hS, b6⟩
    have B6 := hide ((unhide B5).trans (b6.mono (unhide B5).size))
    rw [unhide HA5] at hS
    have HSS := hide hS
    clear b6 hS KA
    go_wp2_with fail
    go_ret2
    exact ⟨.inr ⟨(unhide HT).1, x, y, z, S, (unhide HT).2.1, (unhide HT).2.2.1, (unhide HT).2.2.2.1, (unhide HT).2.2.2.2.1, (unhide HT).2.2.2.2.2.1, (unhide HT).2.2.2.2.2.2, rfl, unhide HSS⟩, unhide B6⟩
end Go.Proofs.YtonabfpgdgnpnaaDoor

namespace Go.Proofs.YtonabfpgdgnpnaaDoor
set_option linter.unusedVariables false
set_option linter.unusedSimpArgs false
open Go.ChangeShapes Go.WideShapes Go.ChangeAt Go.RowKit Go.Joins Go.Deep

def lcsF : Nat → List CP → List CP → Nat
  | 0, _, _ => 0
  | _ + 1, [], _ => 0
  | _ + 1, _ :: _, [] => 0
  | n + 1, c :: x, d :: y => if c = d then lcsF n x y + 1 else max (lcsF n x (d :: y)) (lcsF n (c :: x) y)
theorem lcsF_eq : ∀ (n : Nat) (x y : List CP), x.length + y.length ≤ n → lcsF n x y = lcs x y
  | 0, [], y, h => by rw [lcs_nil_left]; rfl
  | 0, _ :: _, _, h => by simp at h
  | n + 1, [], y, h => by rw [lcs_nil_left]; rfl
  | n + 1, _ :: _, [], h => by rw [lcs_nil_right]; rfl
  | n + 1, c :: x, d :: y, h => by
    rw [List.length_cons, List.length_cons] at h
    by_cases e : c = d
    · subst e
      rw [lcs_eq, lcsF, if_pos rfl, lcsF_eq n x y (by omega)]
    · rw [lcs_ne e, lcsF, if_neg e, lcsF_eq n x (d :: y) (by rw [List.length_cons]; omega), lcsF_eq n (c :: x) y (by rw [List.length_cons]; omega)]
def leadF : Nat → List CP → List CP → List At
  | 0, _, _ => []
  | _ + 1, [], [] => []
  | n + 1, [], d :: y => .p d :: leadF n [] y
  | n + 1, _ :: x, [] => .d :: leadF n x []
  | n + 1, c :: x, d :: y => if c = d then .k :: leadF n x y else if lcsF n (c :: x) y ≤ lcsF n x (d :: y) then .d :: leadF n x (d :: y) else .p d :: leadF n (c :: x) y
theorem leadF_eq : ∀ (n : Nat) (x y : List CP), x.length + y.length ≤ n → leadF n x y = leadA x y
  | 0, [], [], _ => by rw [leadA]; rfl
  | 0, [], _ :: _, h => by simp at h
  | 0, _ :: _, _, h => by simp at h
  | n + 1, [], [], _ => by rw [leadA]; rfl
  | n + 1, [], d :: y, h => by rw [leadA, leadF, leadF_eq n [] y (by rw [List.length_cons] at h; omega)]
  | n + 1, c :: x, [], h => by rw [leadA, leadF, leadF_eq n x [] (by rw [List.length_cons] at h; omega)]
  | n + 1, c :: x, d :: y, h => by
    rw [List.length_cons, List.length_cons] at h
    rw [leadA, leadF, leadF_eq n x y (by omega), leadF_eq n x (d :: y) (by rw [List.length_cons]; omega), leadF_eq n (c :: x) y (by rw [List.length_cons]; omega), lcsF_eq n x (d :: y) (by rw [List.length_cons]; omega), lcsF_eq n (c :: x) y (by rw [List.length_cons]; omega)]
theorem aw_lead : leadA [[97], [98], [99], [100]] [[97], [120], [99], [121]] = [.k, .d, .p [120], .k, .d, .p [121]] ∨ leadA [[97], [98], [99], [100]] [[97], [120], [99], [121]] = [.k, .p [120], .d, .k, .p [121], .d] := by
  rw [← leadF_eq 8 _ _ (by decide)]
  exact .inl (by rfl)
theorem aw_l1 : leadA [[111], [110], [101], [32], [116], [119], [111]] [[111], [110], [101], [32], [50], [32], [116], [119], [111]] = [.k, .k, .k, .k, .p [50], .p [32], .k, .k, .k] := by
  rw [← leadF_eq 16 _ _ (by decide)]
  rfl
theorem aw_l2 : leadA [[111], [110], [101], [32], [116], [119], [111]] [[49], [32], [111], [110], [101], [32], [116], [119], [111]] = [.p [49], .p [32], .k, .k, .k, .k, .k, .k, .k] := by
  rw [← leadF_eq 16 _ _ (by decide)]
  kernel_rfl
theorem aw_mg : At.app (At.can (At.two (At.can (leadA [[111], [110], [101], [32], [116], [119], [111]] [[111], [110], [101], [32], [50], [32], [116], [119], [111]])) (At.can (leadA [[111], [110], [101], [32], [116], [119], [111]] [[49], [32], [111], [110], [101], [32], [116], [119], [111]])))) [[111], [110], [101], [32], [50], [32], [116], [119], [111]] = [[49], [32], [111], [110], [101], [32], [50], [32], [116], [119], [111]] := by
  rw [aw_l1, aw_l2]
  simp [At.can, At.canG, At.two, At.app]
def awL : List Pt := [⟨1, 1, ⟨#[]⟩⟩, ⟨2, 1, ⟨#[120]⟩⟩, ⟨3, 1, ⟨#[]⟩⟩, ⟨1, 1, ⟨#[]⟩⟩, ⟨2, 1, ⟨#[121]⟩⟩, ⟨3, 1, ⟨#[]⟩⟩]
theorem aw_good (c : UInt8) (h : c.toNat < 128) : Good ⟨2, 1, ⟨#[c]⟩⟩ ∧ atoms ⟨2, 1, ⟨#[c]⟩⟩ = [.p [c]] := by
  have hx : Tx ⟨#[c]⟩ [[c]] := tx_ascii [c] (by intro b hb; rw [List.mem_singleton] at hb; rw [hb]; exact h)
  exact ⟨⟨by show (1 : Int) ≤ 1; omega, .inr (.inr ⟨rfl, _, hx, rfl⟩)⟩, atoms_put hx⟩
theorem aw_nf : NfG 0 awL ∧ atomsL awL = At.can (leadA [[97], [98], [99], [100]] [[97], [120], [99], [121]]) := by
  have g1 : Good ⟨1, 1, ⟨#[]⟩⟩ := good_keep (by decide)
  have g3 : Good ⟨3, 1, ⟨#[]⟩⟩ := good_drop (by decide)
  have gx := aw_good 120 (by decide)
  have gy := aw_good 121 (by decide)
  refine ⟨⟨g1, by decide, by decide, gx.1, by decide, by decide, g3, by decide, by decide, g1, by decide, by decide, gy.1, by decide, by decide, g3, by decide, by decide, trivial⟩, ?_⟩
  have e : atomsL awL = [.k, .p [120], .d, .k, .p [121], .d] := by
    unfold awL
    simp only [atomsL]
    rw [gx.2, gy.2, atoms_keep, atoms_drop]
    rfl
  rw [e]
  rcases aw_lead with h | h <;> rw [h] <;> simp [At.can, At.canG]
set_option maxRecDepth 100000 in
set_option maxHeartbeats 4000000 in
theorem awake_any (w : World) (hT : UT w) : Calls Tryd.prog 12 #[] w fun r w' => r = .returned (.bool true) ∧ Below w.heap.size w w' := by
  have HU : Hid (∀ W, Below w.heap.size w W → UT W) := hide (fun W h => hT.call h)
  have KD := hide (diff_any ⟨#[97, 98, 99, 100]⟩ ⟨#[97, 120, 99, 121]⟩ w hT (by decide) (by decide))
  clear hT
  go_enter Tryd.func12, Tryd.ntmps12
  go_wp2_with fail
  refine Calls.mono (unhide KD) ?_
  rintro r w1 ⟨h1, b1⟩
  have B1 := hide b1
  clear b1 KD
  have hf0 : firstE [⟨#[97, 98, 99, 100]⟩, ⟨#[97, 120, 99, 121]⟩] = 0 := by
    have e1 := chk_tx (show Tx ⟨#[97, 98, 99, 100]⟩ [[97], [98], [99], [100]] from tx_ascii [97, 98, 99, 100] (by decide))
    have e2 := chk_tx (show Tx ⟨#[97, 120, 99, 121]⟩ [[97], [120], [99], [121]] from tx_ascii [97, 120, 99, 121] (by decide))
    rw [if_neg (by decide)] at e1 e2
    rw [firstE, if_pos e1, firstE, if_pos e2, firstE]
  rcases h1 with ⟨hf, _⟩ | ⟨hf, x, y, v, l, hx, hy, hl1, hl2, rfl, ho, nf, at_⟩
  · exact absurd hf0 hf
  · obtain rfl := hx.inj (show Tx ⟨#[97, 98, 99, 100]⟩ [[97], [98], [99], [100]] from tx_ascii [97, 98, 99, 100] (by decide))
    obtain rfl := hy.inj (show Tx ⟨#[97, 120, 99, 121]⟩ [[97], [120], [99], [121]] from tx_ascii [97, 120, 99, 121] (by decide))
    obtain rfl : l = awL := nf_unique _ _ 0 0 nf aw_nf.1 (at_.trans aw_nf.2.symm)
    have HO := hide ho
    obtain ⟨a1, c1, e, hp1, _, _⟩ := ho.slice
    subst e
    have KM := hide (merge_any ⟨#[111, 110, 101, 32, 116, 119, 111]⟩ ⟨#[111, 110, 101, 32, 50, 32, 116, 119, 111]⟩ ⟨#[49, 32, 111, 110, 101, 32, 116, 119, 111]⟩ w1 (unhide HU _ (unhide B1)) (by decide) (by decide) (by decide))
    rw [show awL.length = 6 from rfl] at *
    clear hf0 hf hx hy hl1 hl2 nf at_ ho hp1
    go_wp2_with fail
    refine Calls.mono (unhide KM) ?_
    rintro r w2 ⟨h2, b2⟩
    have B2 := hide ((unhide B1).trans (b2.mono (unhide B1).size))
    have HO2 := hide (OwnP.call (unhide HO) b2)
    clear b2 KM HO
    have hf0 : firstE [⟨#[111, 110, 101, 32, 116, 119, 111]⟩, ⟨#[111, 110, 101, 32, 50, 32, 116, 119, 111]⟩, ⟨#[49, 32, 111, 110, 101, 32, 116, 119, 111]⟩] = 0 := by
      have e1 := chk_tx (show Tx ⟨#[111, 110, 101, 32, 116, 119, 111]⟩ [[111], [110], [101], [32], [116], [119], [111]] from tx_ascii [111, 110, 101, 32, 116, 119, 111] (by decide))
      have e2 := chk_tx (show Tx ⟨#[111, 110, 101, 32, 50, 32, 116, 119, 111]⟩ [[111], [110], [101], [32], [50], [32], [116], [119], [111]] from tx_ascii [111, 110, 101, 32, 50, 32, 116, 119, 111] (by decide))
      have e3 := chk_tx (show Tx ⟨#[49, 32, 111, 110, 101, 32, 116, 119, 111]⟩ [[49], [32], [111], [110], [101], [32], [116], [119], [111]] from tx_ascii [49, 32, 111, 110, 101, 32, 116, 119, 111] (by decide))
      rw [if_neg (by decide)] at e1 e2 e3
      rw [firstE, if_pos e1, firstE, if_pos e2, firstE, if_pos e3, firstE]
    rcases h2 with ⟨hf, _⟩ | ⟨hf, x, y, z, S, hx, hy, hz, hl1, hl2, hl3, rfl, hS⟩
    · exact absurd hf0 hf
    · obtain rfl := hx.inj (show Tx ⟨#[111, 110, 101, 32, 116, 119, 111]⟩ [[111], [110], [101], [32], [116], [119], [111]] from tx_ascii [111, 110, 101, 32, 116, 119, 111] (by decide))
      obtain rfl := hy.inj (show Tx ⟨#[111, 110, 101, 32, 50, 32, 116, 119, 111]⟩ [[111], [110], [101], [32], [50], [32], [116], [119], [111]] from tx_ascii [111, 110, 101, 32, 50, 32, 116, 119, 111] (by decide))
      obtain rfl := hz.inj (show Tx ⟨#[49, 32, 111, 110, 101, 32, 116, 119, 111]⟩ [[49], [32], [111], [110], [101], [32], [116], [119], [111]] from tx_ascii [49, 32, 111, 110, 101, 32, 116, 119, 111] (by decide))
      rw [aw_mg] at hS
      obtain rfl : S = ⟨#[49, 32, 111, 110, 101, 32, 50, 32, 116, 119, 111]⟩ := hS.same (show Tx ⟨#[49, 32, 111, 110, 101, 32, 50, 32, 116, 119, 111]⟩ [[49], [32], [111], [110], [101], [32], [50], [32], [116], [119], [111]] from tx_ascii [49, 32, 111, 110, 101, 32, 50, 32, 116, 119, 111] (by decide))
      obtain ⟨W, hW⟩ : ∃ z, w2.alloc (.cells #[.int .i64 1, .int .i64 1, .string ⟨#[]⟩, .int .i64 2, .int .i64 1, .string ⟨#[120]⟩, .int .i64 3, .int .i64 1, .string ⟨#[]⟩, .int .i64 1, .int .i64 1, .string ⟨#[]⟩, .int .i64 2, .int .i64 1, .string ⟨#[121]⟩, .int .i64 3, .int .i64 1, .string ⟨#[]⟩] 39) = z := ⟨_, rfl⟩
      have hr := RowAt.new w2 39 (ptc awL)
      have hal : Below w2.heap.size w2 (w2.alloc (.cells #[.int .i64 1, .int .i64 1, .string ⟨#[]⟩, .int .i64 2, .int .i64 1, .string ⟨#[120]⟩, .int .i64 3, .int .i64 1, .string ⟨#[]⟩, .int .i64 1, .int .i64 1, .string ⟨#[]⟩, .int .i64 2, .int .i64 1, .string ⟨#[121]⟩, .int .i64 3, .int .i64 1, .string ⟨#[]⟩] 39)) := (Below.refl _ _).alloc (Nat.le_refl _) _
      rw [show (ptc awL).toArray = #[.int .i64 1, .int .i64 1, .string ⟨#[]⟩, .int .i64 2, .int .i64 1, .string ⟨#[120]⟩, .int .i64 3, .int .i64 1, .string ⟨#[]⟩, .int .i64 1, .int .i64 1, .string ⟨#[]⟩, .int .i64 2, .int .i64 1, .string ⟨#[121]⟩, .int .i64 3, .int .i64 1, .string ⟨#[]⟩] from rfl, hW] at hr
      rw [hW] at hal
      have HO3 := hide (OwnP.call (unhide HO2) hal)
      have B3 := hide ((unhide B2).trans (hal.mono (unhide B2).size))
      obtain ⟨a9, c9, e9, hp1, _, _⟩ := (unhide HO3).slice
      injection e9 with e91 e92 e93
      clear e92
      subst e91 e93
      have KE := hide (rsame_true a1 (some ⟨w2.heap.size, 0, none⟩) awL c1 6 6 W hp1 (row_pts hr) rfl (by unfold maxLen; omega))
      have HW := hide hW
      clear hf0 hf hx hy hz hl1 hl2 hl3 hS hW hr hal hp1 HO2 HO3 B2
      go_wp2_with fail
      try rw [unhide HW]
      refine Calls.mono (unhide KE) ?_
      rintro r w4 ⟨rfl, b4⟩
      have B4 := hide ((unhide B3).trans (b4.mono (unhide B3).size))
      clear b4 KE
      go_wp2_with fail
      go_ret
      exact ⟨by first | rfl | (simp; done), unhide B4⟩
end Go.Proofs.YtonabfpgdgnpnaaDoor

namespace Go.Proofs.YtonabfpgdgnpnaaDoor
set_option linter.unusedVariables false
set_option linter.unusedSimpArgs false
open Go.ChangeShapes Go.WideShapes Go.ChangeAt Go.RowKit Go.Joins Go.Deep

def longB (l : List ByteArray) : Bool := l.any (fun s => decide (200 < s.size))
theorem long1 (s : ByteArray) (w : World) : Calls Tryd.prog 28 #[.string s] w fun r w' => r = .returned (.bool (decide (200 < s.size))) ∧ w = w' := by
  by_cases h : 200 < s.size
  · have h' : (200 : Int) < (s.size : Int) := by omega
    rw [show decide (200 < s.size) = true by simp [h]]
    go_enter Tryd.func28, Tryd.ntmps28
    go_wp2_with fail
    go_ret
    exact ⟨by first | rfl | simp [h], rfl⟩
  · have h' : ¬ (200 : Int) < (s.size : Int) := by omega
    rw [show decide (200 < s.size) = false by simp; omega]
    go_enter Tryd.func28, Tryd.ntmps28
    go_wp2_with fail
    go_ret
    exact ⟨by first | rfl | (simp; omega), rfl⟩
set_option maxRecDepth 100000 in
set_option maxHeartbeats 4000000 in
theorem ixf_any (B : Nat) (v : Value) (l : List ByteArray) (w : World) (h : w.ownsRow B 9 1 v l.length (l.map .string)) (hl : l.length ≤ 1099511627776) : Calls Tryd.prog 49 #[v, .func (.func 28) #[] #[]] w fun r w' => (∃ k : Int, r = .returned (.int .i64 k) ∧ -9223372036854775808 ≤ k ∧ k ≤ 9223372036854775807 ∧ decide (0 ≤ k) = longB l) ∧ w = w' := by
  obtain ⟨a, c, rfl, _, _⟩ := own_sl h
  have HR := hide h
  obtain ⟨n, hn⟩ : ∃ n, l.length = n := ⟨_, rfl⟩
  rw [hn] at hl HR ⊢
  have HN := hide hn
  have hnI : (n : Int) ≤ 1099511627776 := by omega
  clear h hn
  go_enter Tryd.func49, Tryd.ntmps49
  go_wp2_with fail
  go_loopw [8] (fun i wr => ∃ k : Nat, k ≤ n ∧ i = .int .i64 (k : Int) ∧ Hid (longB (l.take k) = false) ∧ w = wr) (fun i _ => ((n : Int) - intOf i).toNat)
  case atStart => exact ⟨0, by omega, by simp, hide (by simp [longB]), rfl⟩
  case round =>
    obtain ⟨k, hk, rfl, HT, rfl⟩ := hrel
    by_cases c3 : (k : Int) < (n : Int)
    · obtain ⟨s, hs⟩ : ∃ s, l[k]? = some s := ⟨_, List.getElem?_eq_getElem (by rw [unhide HN]; omega)⟩
      obtain ⟨g1, d1, e1, q1, _, _, _⟩ := own_rd (unhide HR) (i := k) (u := .string s) (by simp [hs])
      injection e1 with e1 _ e3
      subst e1 e3
      have k0 : (0 : Int) ≤ (k : Int) := by omega
      have K := hide (long1 s w)
      have HS := hide hs
      clear hs
      by_cases hb : 200 < s.size
      · rw [show decide (200 < s.size) = true by simp [hb]] at K
        have HB := hide hb
        clear hb
        go_wp2_with fail
        refine Calls.mono (unhide K) ?_
        rintro r w2 ⟨rfl, rfl⟩
        go_wp2_with fail
        go_ret
        refine ⟨⟨(k : Int), rfl, by omega, by omega, ?_⟩, rfl⟩
        have h1 : longB l = true := by
          unfold longB
          rw [List.any_eq_true]
          exact ⟨s, List.mem_of_getElem? (unhide HS), by simp [unhide HB]⟩
        rw [h1]
        simp
      · rw [show decide (200 < s.size) = false by simp; omega] at K
        have HT2 : Hid (longB (l.take (k + 1)) = false) := hide (by
          have h1 := unhide HT
          unfold longB at h1 ⊢
          rw [List.take_add_one, unhide HS, List.any_append, h1]
          simp
          omega)
        clear hb HT
        go_wp2_with fail
        refine Calls.mono (unhide K) ?_
        rintro r w2 ⟨rfl, rfl⟩
        go_wp2_with fail
        exact ⟨⟨k + 1, by omega, by simp, HT2, by trivial⟩, by simp [intOf]; omega⟩
    · obtain rfl : n = k := by omega
      go_wp2_with fail
      go_ret
      refine ⟨⟨-1, rfl, by omega, by omega, ?_⟩, rfl⟩
      have h1 := unhide HT
      rw [List.take_of_length_le (by rw [unhide HN]; exact Nat.le_refl _)] at h1
      rw [h1]
      simp
set_option maxRecDepth 100000 in
set_option maxHeartbeats 4000000 in
theorem long_any (B : Nat) (v : Value) (l : List ByteArray) (w : World) (h : w.ownsRow B 9 1 v l.length (l.map .string)) (hl : l.length ≤ 1099511627776) : Calls Tryd.prog 11 #[v] w fun r w' => r = .returned (.bool (longB l)) ∧ w = w' := by
  have K := hide (ixf_any B v l w h hl)
  have KC : Hid (Calls Tryd.prog 27 #[v, .func (.func 28) #[] #[]] w fun r w' => r = .returned (.bool (longB l)) ∧ w = w') := hide (by
    clear h
    go_enter Tryd.func27, Tryd.ntmps27
    go_wp2_with fail
    refine Calls.mono (unhide K) ?_
    rintro r w1 ⟨⟨k, rfl, h1, h2, h3⟩, rfl⟩
    have H3 := hide h3
    clear h3
    go_wp2_with fail
    go_ret
    exact ⟨by rw [← unhide H3]; rfl, rfl⟩)
  clear h K
  go_enter Tryd.func11, Tryd.ntmps11
  go_wp2_with fail
  refine Calls.mono (unhide KC) ?_
  rintro r w1 ⟨rfl, rfl⟩
  go_wp2_with fail
  go_ret
  exact ⟨rfl, rfl⟩
end Go.Proofs.YtonabfpgdgnpnaaDoor

namespace Go.Proofs.YtonabfpgdgnpnaaDoor
set_option linter.unusedVariables false
set_option linter.unusedSimpArgs false
open Go.ChangeShapes Go.WideShapes Go.ChangeAt Go.RowKit Go.Joins Go.Deep

abbrev Cut2 := Nat × Nat
def cut2C (L : List Cut2) : List Value := L.flatMap fun x => [.int .i64 (x.1 : Int), .int .i64 (x.2 : Int)]
theorem cut2C_len (L : List Cut2) : (cut2C L).length = L.length * 2 := by
  induction L with
  | nil => rfl
  | cons x L ih => unfold cut2C at *; rw [List.flatMap_cons, List.length_append, ih, List.length_cons]; simp; omega
theorem cut2C_app (L M : List Cut2) : cut2C (L ++ M) = cut2C L ++ cut2C M := by unfold cut2C; rw [List.flatMap_append]
theorem cut2C_last (L : List Cut2) (f o t : Nat) : (cut2C (L ++ [(f, o)])).set (L.length * 2 + 1) (.int .i64 (t : Int)) = cut2C (L ++ [(f, t)]) := by
  rw [cut2C_app, cut2C_app, List.set_append_right _ _ (by rw [cut2C_len]; omega), cut2C_len, show L.length * 2 + 1 - L.length * 2 = 1 by omega]
  rfl
theorem info84 : ∃ i, Tryd.prog.info? 84 = some i ∧ i.zero = some (.agg #[.int .i64 0, .int .i64 0]) ∧ i.size = 2 ∧ i.bytes = 16 := info_parts (by kernel_rfl)
/-- a part on the way: the stretches so far, where it stands, what the last part was -/
def sgS (s : List Cut2 × Nat × Int) (p : Pt) : List Cut2 × Nat × Int :=
  if p.kind = 2 then (s.1 ++ [(s.2.1, s.2.1)], s.2.1, p.kind)
  else if p.kind = 3 then (if s.2.2 = 2 then (s.1.dropLast ++ [((s.1.getLast?.getD (0, 0)).1, s.2.1 + p.n.toNat)], s.2.1 + p.n.toNat, p.kind) else (s.1 ++ [(s.2.1, s.2.1 + p.n.toNat)], s.2.1 + p.n.toNat, p.kind))
  else (s.1, s.2.1 + p.n.toNat, p.kind)
def sgL (l : List Pt) : List Cut2 × Nat × Int := l.foldl sgS ([], 0, 0)
theorem sgL_take {l : List Pt} {k : Nat} {p : Pt} (h : l[k]? = some p) : sgL (l.take (k + 1)) = sgS (sgL (l.take k)) p := by
  unfold sgL
  rw [List.take_add_one, h, List.foldl_append]
  rfl
theorem sgL_two {l : List Pt} : (sgL l).2.2 = 2 → (sgL l).1 ≠ [] := by
  rcases List.eq_nil_or_concat l with rfl | ⟨m, p, rfl⟩
  · intro h; simp [sgL] at h
  · unfold sgL
    rw [List.concat_eq_append, List.foldl_append, List.foldl_cons, List.foldl_nil]
    intro h
    unfold sgS at h ⊢
    split
    · simp
    · rename_i h2
      rw [if_neg h2] at h
      split at h <;> rename_i h3
      · split at h <;> simp_all
      · exact absurd h h2
theorem own_set2 {w : World} {B e n g c : Nat} {xs : List Value} (h : w.ownsRow B e 2 (.slice (some ⟨g, 0, none⟩) n c) n xs) (i : Nat) (u : Value) (hi : i < n * 2) : (w.setCell ⟨g, i, none⟩ u).ownsRow B e 2 (.slice (some ⟨g, 0, none⟩) n c) n (xs.set i u) := by
  obtain ⟨h1, h2⟩ := h
  refine ⟨by rw [List.length_set]; exact h1, ?_⟩
  rcases h2 with ⟨h2, _⟩ | ⟨g', cap, cur, e1, e2, e3, e4, e5, e6, e7⟩
  · cases h2
  · cases e1
    refine .inr ⟨g, c, cur.setIfInBounds i u, rfl, e2, ?_, e4, e5, by rw [Array.size_setIfInBounds]; exact e6, ?_⟩
    · rw [heap_setCell_same w g i _ e u e3]
    · rw [Array.toList_setIfInBounds, ← e7, List.take_set]
theorem cut2_at {L : List Cut2} {i : Nat} {x : Cut2} (h : L[i]? = some x) : (cut2C L)[i * 2]? = some (.int .i64 (x.1 : Int)) ∧ (cut2C L)[i * 2 + 1]? = some (.int .i64 (x.2 : Int)) := by
  obtain ⟨hlt, he⟩ := List.getElem?_eq_some_iff.1 h
  have e1 : L = L.take i ++ x :: L.drop (i + 1) := by
    conv => lhs; rw [← List.take_append_drop i L]
    rw [List.drop_eq_getElem_cons hlt, he]
  have hl : (L.take i).length = i := by rw [List.length_take]; omega
  rw [e1, show L.take i ++ x :: L.drop (i + 1) = L.take i ++ ([x] ++ L.drop (i + 1)) from rfl, cut2C_app, cut2C_app]
  have h2 : (cut2C (L.take i)).length = i * 2 := by rw [cut2C_len, hl]
  constructor
  · rw [List.getElem?_append_right (by omega), h2, Nat.sub_self]; rfl
  · rw [List.getElem?_append_right (by omega), h2, show i * 2 + 1 - i * 2 = 1 by omega]; rfl
end Go.Proofs.YtonabfpgdgnpnaaDoor

namespace Go.Proofs.YtonabfpgdgnpnaaDoor
set_option linter.unusedVariables false
set_option linter.unusedSimpArgs false
open Go.ChangeShapes Go.WideShapes Go.ChangeAt Go.RowKit Go.Joins Go.Deep

theorem alloc_size9 (w : World) (o : Obj) : (w.alloc o).heap.size = w.heap.size + 1 := by show (w.heap.push o).size = _; rw [Array.size_push]
theorem own_g2 {w : World} {B e n c : Nat} {a : Option Addr} {xs : List Value} (h : w.ownsRow B e 2 (.slice a n c) n xs) (hn : 0 < n) : ∃ g, a = some ⟨g, 0, none⟩ ∧ B ≤ g ∧ n ≤ c := by
  rcases h.2 with ⟨_, h2⟩ | ⟨g, cap, cur, e1, e2, e3, e4, e5, e6, e7⟩
  · exfalso
    have h1 := h.1
    rw [h2] at h1
    simp at h1
    omega
  · cases e1
    exact ⟨g, rfl, e2, e4⟩
theorem own_c2 {w : World} {B e n g c : Nat} {xs : List Value} (h : w.ownsRow B e 2 (.slice (some ⟨g, 0, none⟩) n c) n xs) {i : Nat} {u : Value} (hu : xs[i]? = some u) : w.cell? ⟨g, i, none⟩ = some u ∧ w.frozen? ⟨g, i, none⟩ = false := by
  refine ⟨by have := World.ownsRow.cells h (g := g) rfl i u hu; simpa [Addr.add_lit] using this, ?_⟩
  rcases h.2 with ⟨h2, _⟩ | ⟨g', cap, cur, e1, e2, e3, _⟩
  · cases h2
  · cases e1
    exact frozen_of_row w g i _ e e3
theorem cut2_end (M : List Cut2) (f o : Nat) : (cut2C (M ++ [(f, o)]))[M.length * 2 + 1]? = some (.int .i64 (o : Int)) := (cut2_at (L := M ++ [(f, o)]) (i := M.length) (x := (f, o)) (by simp)).2
set_option maxRecDepth 100000 in
set_option maxHeartbeats 4000000 in
theorem stretches_any (a : Option Addr) (l : List Pt) (c f t : Nat) (w : World) (hp : PtsAt w a l) (he : IsEd l f t) (hc : l.length ≤ 4000) : Calls Tryd.prog 46 #[.slice a l.length c] w fun r w' => ∃ v, r = .returned v ∧ w'.ownsRow w.heap.size 84 2 v (sgL l).1.length (cut2C (sgL l).1) ∧ Below w.heap.size w w' := by
  have HP := hide hp
  have HE := hide he
  obtain ⟨n, hn⟩ : ∃ z, l.length = z := ⟨_, rfl⟩
  have HN := hide hn
  rw [hn] at hc ⊢
  clear hp he hn
  go_enter Tryd.func46, Tryd.ntmps46
  go_wp2_with fail
  go_loopw [3, 4, 5, 10] (fun tv av lv iv wr => ∃ (k q A : Nat) (a2 : Option Addr) (c2 : Nat) (L : List Cut2) (la : Int), k ≤ n ∧ A ≤ k * 1099511627776 ∧ iv = .int .i64 (k : Int) ∧ av = .int .i64 (A : Int) ∧ lv = .int .i64 la ∧ tv = .slice a2 q c2 ∧ q ≤ k ∧ Hid (sgL (l.take k) = (L, A, la) ∧ L.length = q) ∧ Hid (wr.ownsRow w.heap.size 84 2 (.slice a2 q c2) q (cut2C L)) ∧ Hid (Below w.heap.size w wr)) (fun _ _ _ iv _ => ((n : Int) - intOf iv).toNat)
  case atStart => exact ⟨0, 0, 0, none, 0, [], 0, by omega, by omega, by simp, by simp, by simp, rfl, by omega, hide ⟨rfl, rfl⟩, hide (World.ownsRow_nil _ _ _ _), hide (Below.refl _ _)⟩
  case round =>
    obtain ⟨k, q, A, a2, c2, L, la, hk, hA, rfl, rfl, rfl, rfl, hqk, HSG, HS, HB⟩ := hrel
    by_cases c1 : (k : Int) < (n : Int)
    · obtain ⟨p, hp⟩ : ∃ p, l[k]? = some p := ⟨_, List.getElem?_eq_getElem (by rw [unhide HN]; omega)⟩
      obtain ⟨b, off, rfl, e0, e1, e2⟩ := (unhide HP).at_ (unhide HB) hp
      have hfit := ed_fit (unhide HE) p (List.mem_of_getElem? hp)
      have HNX := hide ((sgL_take hp).trans (by rw [(unhide HSG).1]))
      have hn1 := hfit.1.1
      have hn2 := hfit.2
      have hkd : p.kind = 1 ∨ p.kind = 3 ∨ p.kind = 2 := by
        rcases hfit.1.cases with ⟨h, _⟩ | ⟨h, _⟩ | ⟨h, _⟩
        · exact .inl h
        · exact .inr (.inl h)
        · exact .inr (.inr h)
      obtain ⟨nn, hnn⟩ : ∃ z : Nat, p.n = (z : Int) := ⟨p.n.toNat, by omega⟩
      have hnt : p.n.toNat = nn := by omega
      rw [hnn] at hn1 hn2 e1
      obtain ⟨kd, hkd2⟩ : ∃ z, p.kind = z := ⟨_, rfl⟩
      rw [hkd2] at hkd e0
      have HKN := hide (And.intro hkd2 hnt)
      obtain ⟨tx, htx⟩ : ∃ z, p.text = z := ⟨_, rfl⟩
      rw [htx] at e2
      have HBA := hide ((unhide HB).alloc (unhide HB).size (.cells #[.int .i64 kd, .int .i64 (nn : Int), .string tx] 39))
      have hal0 : Below wr.heap.size wr (wr.alloc (.cells #[.int .i64 kd, .int .i64 (nn : Int), .string tx] 39)) := (Below.refl _ _).alloc (Nat.le_refl _) _
      have HS := hide (own_call (unhide HS) hal0)
      have k0 : (0 : Int) ≤ (k : Int) := by omega
      have hsum : IntKind.i64.wrap ((A : Int) + (nn : Int)) = (A : Int) + (nn : Int) := by rw [IntKind.wrap_i64] <;> omega
      clear hp hfit hnn hnt hkd2 htx hal0
      rcases hkd with hkd | hkd | hkd
      · subst hkd
        have HSG2 : Hid (sgL (l.take (k + 1)) = (L, A + nn, 1)) := hide (by rw [unhide HNX]; unfold sgS; rw [(unhide HKN).1, if_neg (by decide), if_neg (by decide), (unhide HKN).2])
        go_wp2_with fail
        exact ⟨⟨k + 1, q, A + nn, a2, c2, L, 1, by omega, by omega, by simp, by simp, by simp, rfl, by omega, hide ⟨unhide HSG2, (unhide HSG).2⟩, HS, HBA⟩, by simp [intOf]; omega⟩
      · subst hkd
        by_cases hla : la = 2
        · subst hla
          have HSG2 : Hid (sgL (l.take (k + 1)) = (L.dropLast ++ [((L.getLast?.getD (0, 0)).1, A + nn)], A + nn, 3)) := hide (by rw [unhide HNX]; unfold sgS; rw [(unhide HKN).1, if_neg (by decide), if_pos rfl, if_pos rfl, (unhide HKN).2])
          obtain ⟨M, x0, hMx⟩ : ∃ M x, L = M ++ [x] := by
            rcases List.eq_nil_or_concat L with h9 | ⟨M, x, h9⟩
            · exact absurd h9 (by have := sgL_two (l := l.take k); rw [(unhide HSG).1] at this; exact this rfl)
            · exact ⟨M, x, by rw [h9, List.concat_eq_append]⟩
          obtain ⟨f0, o0⟩ := x0
          subst hMx
          obtain ⟨r, hr⟩ : ∃ z, M.length = z := ⟨_, rfl⟩
          have hqr : q = r + 1 := by rw [← (unhide HSG).2, List.length_append, hr]; rfl
          subst hqr
          obtain ⟨g4, rfl, hg4, hc4⟩ := own_g2 (unhide HS) (by omega)
          have hend := own_c2 (unhide HS) (cut2_end M f0 o0)
          rw [hr] at hend
          have he1 := hend.1
          have he2 := hend.2
          have HS5 := hide (own_set2 (unhide HS) (r * 2 + 1) (.int .i64 ((A + nn : Nat) : Int)) (by omega))
          have hcl := cut2C_last M f0 o0 (A + nn)
          rw [hr] at hcl
          rw [hcl] at HS5
          have HB5 : Hid (Below w.heap.size w ((wr.alloc (.cells #[.int .i64 3, .int .i64 (nn : Int), .string tx] 39)).setCell ⟨g4, r * 2 + 1, none⟩ (.int .i64 ((A + nn : Nat) : Int)))) := hide ((unhide HBA).setCell (by show w.heap.size ≤ g4; exact hg4) _)
          have hqI : ((r + 1 : Nat) : Int) - 1 = (r : Int) := by omega
          have r0 : (0 : Int) ≤ (r : Int) := by omega
          have HR := RowAt.new wr 39 [.int .i64 3, .int .i64 (nn : Int), .string tx]
          have hne9 : g4 ≠ wr.heap.size := fun hz => tag_ne (unhide HS) HR (by decide) (by rw [← hz]; rfl)
          have ho5 : Only (fun z => z = g4) (wr.alloc (.cells #[.int .i64 3, .int .i64 (nn : Int), .string tx] 39)) ((wr.alloc (.cells #[.int .i64 3, .int .i64 (nn : Int), .string tx] 39)).setCell ⟨g4, r * 2 + 1, none⟩ (.int .i64 ((A + nn : Nat) : Int))) := (Only.refl _ _).set g4 (r * 2 + 1) _ rfl
          have k50 := (HR.only ho5 (fun hz => hne9 hz.symm)).cell 0
          have HSG3 : Hid (sgL (l.take (k + 1)) = (M ++ [(f0, A + nn)], A + nn, 3)) := hide (by have h9 := unhide HSG2; simp at h9; exact h9)
          have HLM : Hid ((M ++ [(f0, A + nn)]).length = r + 1) := hide (by rw [List.length_append, hr]; rfl)
          clear hend hcl hr HR ho5 HS HBA
          go_wp2_with fail
          exact ⟨⟨k + 1, r + 1, A + nn, _, c2, M ++ [(f0, A + nn)], 3, by omega, by omega, by simp, by simp, by simp, rfl, by omega, hide ⟨unhide HSG3, unhide HLM⟩, HS5, HB5⟩, by simp [intOf]; omega⟩
        · have hla2 : (la == 2) = false := by simp [hla]
          have hla3 : (la != 2) = true := by simp [hla]
          have HSG2 : Hid (sgL (l.take (k + 1)) = (L ++ [(A, A + nn)], A + nn, 3)) := hide (by rw [unhide HNX]; unfold sgS; rw [(unhide HKN).1, if_neg (by decide), if_pos rfl, if_neg hla, (unhide HKN).2])
          have HRA := hide (RowAt.new wr 39 [.int .i64 3, .int .i64 (nn : Int), .string tx])
          have hal : Below (wr.alloc (.cells #[.int .i64 3, .int .i64 (nn : Int), .string tx] 39)).heap.size (wr.alloc (.cells #[.int .i64 3, .int .i64 (nn : Int), .string tx] 39)) ((wr.alloc (.cells #[.int .i64 3, .int .i64 (nn : Int), .string tx] 39)).alloc (.cells #[.int .i64 (A : Int), .int .i64 (A : Int)] 84)) := (Below.refl _ _).alloc (Nat.le_refl _) _
          have HS2 := hide (own_call (unhide HS) hal)
          have HB2 := hide ((unhide HBA).trans (hal.mono (unhide HBA).size))
          have hsz9 : (wr.alloc (.cells #[.int .i64 3, .int .i64 (nn : Int), .string tx] 39)).heap.size = wr.heap.size + 1 := alloc_size9 _ _
          have HC2 := hide (RowAt.new (wr.alloc (.cells #[.int .i64 3, .int .i64 (nn : Int), .string tx] 39)) 84 [.int .i64 (A : Int), .int .i64 (A : Int)])
          rw [hsz9] at HC2
          clear hsz9
          have HR2 := hide ((unhide HRA).below hal (unhide HRA).lt)
          clear hal
          go_wp2_with (at_builtin; refine unhide ?_)
          obtain ⟨i9, hi9, hz9, hs9, hb9⟩ := info84
          refine hide ?_
          refine wpList_append_own_at _ rfl _ _ 81 rfl w.heap.size 84 i9 (.agg #[.int .i64 0, .int .i64 0]) 2 16 Tryd.underlying81 hi9 hz9 hs9 hb9 rfl (by decide) (.slice a2 q c2) q (cut2C L) rfl (unhide HS2) ⟨wr.heap.size + 1, 0, none⟩ 1 1 [.int .i64 (A : Int), .int .i64 (A : Int)] rfl rfl (fun j u hj => by
            have h9 := (unhide HC2).cell j
            rw [hj] at h9
            rw [Addr.add_lit, Nat.zero_add]
            exact h9) (fun u hu => by
            simp only [List.mem_cons, List.not_mem_nil, or_false] at hu
            rcases hu with rfl | rfl <;> rfl) (by unfold maxLen; omega) (by omega) (unhide HB2).size ?_
          intro v' w3 ho hg _ _
          obtain ⟨a4, c4, rfl, _, _⟩ := own_sl3 ho
          have o3 := grown_only hg
          have HB3 := hide ((unhide HB2).trans (o3.below (unhide HB2).size (fun z hz => ((unhide HS2).lt z hz).1)))
          have HS3 : Hid (w3.ownsRow w.heap.size 84 2 (.slice a4 (q + 1) c4) (q + 1) (cut2C (L ++ [(A, A)]))) := hide (by rw [cut2C_app]; exact ho)
          have HR3 := (unhide HR2).only o3 (fun hz => tag_ne (unhide HS2) (unhide HR2) (by decide) hz)
          have k30 := HR3.cell 0
          have k31 := HR3.cell 1
          obtain ⟨g4, rfl, hg4, hc4⟩ := own_g2 (unhide HS3) (by omega)
          have hend := own_c2 (unhide HS3) (cut2_end L A A)
          rw [(unhide HSG).2] at hend
          have he1 := hend.1
          have he2 := hend.2
          have HS5 := hide (own_set2 (unhide HS3) (q * 2 + 1) (.int .i64 ((A + nn : Nat) : Int)) (by omega))
          have HB5 : Hid (Below w.heap.size w (w3.setCell ⟨g4, q * 2 + 1, none⟩ (.int .i64 ((A + nn : Nat) : Int)))) := hide ((unhide HB3).setCell (by show w.heap.size ≤ g4; exact hg4) _)
          have q0 : (0 : Int) ≤ (q : Int) := by omega
          have hcl := cut2C_last L A A (A + nn)
          rw [(unhide HSG).2] at hcl
          rw [hcl] at HS5
          have hne9 : g4 ≠ wr.heap.size := fun hz => tag_ne (unhide HS3) HR3 (by decide) (by rw [← hz]; rfl)
          have ho5 : Only (fun z => z = g4) w3 (w3.setCell ⟨g4, q * 2 + 1, none⟩ (.int .i64 ((A + nn : Nat) : Int))) := (Only.refl _ _).set g4 (q * 2 + 1) _ rfl
          have HR5 := HR3.only ho5 (fun hz => hne9 hz.symm)
          have k50 := HR5.cell 0
          clear ho5 HR5
          clear ho hg o3 HR3 HS2 HB2 HC2 HR2 HRA i9 hi9 hz9 hs9 hb9 HS HS3 HB3 hend hcl
          go_wp2_with fail
          exact ⟨⟨k + 1, q + 1, A + nn, _, c4, L ++ [(A, A + nn)], 3, by omega, by omega, by simp, by simp, by simp, rfl, by omega, hide ⟨unhide HSG2, by rw [List.length_append, (unhide HSG).2]; rfl⟩, HS5, HB5⟩, by simp [intOf]; omega⟩
      · subst hkd
        have HSG2 : Hid (sgL (l.take (k + 1)) = (L ++ [(A, A)], A, 2)) := hide (by rw [unhide HNX]; unfold sgS; rw [(unhide HKN).1, if_pos rfl])
        have HRA := hide (RowAt.new wr 39 [.int .i64 2, .int .i64 (nn : Int), .string tx])
        have hal : Below (wr.alloc (.cells #[.int .i64 2, .int .i64 (nn : Int), .string tx] 39)).heap.size (wr.alloc (.cells #[.int .i64 2, .int .i64 (nn : Int), .string tx] 39)) ((wr.alloc (.cells #[.int .i64 2, .int .i64 (nn : Int), .string tx] 39)).alloc (.cells #[.int .i64 (A : Int), .int .i64 (A : Int)] 84)) := (Below.refl _ _).alloc (Nat.le_refl _) _
        have HS2 := hide (own_call (unhide HS) hal)
        have HB2 := hide ((unhide HBA).trans (hal.mono (unhide HBA).size))
        have hsz9 : (wr.alloc (.cells #[.int .i64 2, .int .i64 (nn : Int), .string tx] 39)).heap.size = wr.heap.size + 1 := alloc_size9 _ _
        have HC2 := hide (RowAt.new (wr.alloc (.cells #[.int .i64 2, .int .i64 (nn : Int), .string tx] 39)) 84 [.int .i64 (A : Int), .int .i64 (A : Int)])
        rw [hsz9] at HC2
        clear hsz9
        have HR2 := hide ((unhide HRA).below hal (unhide HRA).lt)
        clear hal
        go_wp2_with (at_builtin; refine unhide ?_)
        obtain ⟨i9, hi9, hz9, hs9, hb9⟩ := info84
        refine hide ?_
        refine wpList_append_own_at _ rfl _ _ 81 rfl w.heap.size 84 i9 (.agg #[.int .i64 0, .int .i64 0]) 2 16 Tryd.underlying81 hi9 hz9 hs9 hb9 rfl (by decide) (.slice a2 q c2) q (cut2C L) rfl (unhide HS2) ⟨wr.heap.size + 1, 0, none⟩ 1 1 [.int .i64 (A : Int), .int .i64 (A : Int)] rfl rfl (fun j u hj => by
          have h9 := (unhide HC2).cell j
          rw [hj] at h9
          rw [Addr.add_lit, Nat.zero_add]
          exact h9) (fun u hu => by
          simp only [List.mem_cons, List.not_mem_nil, or_false] at hu
          rcases hu with rfl | rfl <;> rfl) (by unfold maxLen; omega) (by omega) (unhide HB2).size ?_
        intro v' w3 ho hg _ _
        obtain ⟨a4, c4, rfl, _, _⟩ := own_sl3 ho
        have o3 := grown_only hg
        have HB3 := hide ((unhide HB2).trans (o3.below (unhide HB2).size (fun z hz => ((unhide HS2).lt z hz).1)))
        have HS3 : Hid (w3.ownsRow w.heap.size 84 2 (.slice a4 (q + 1) c4) (q + 1) (cut2C (L ++ [(A, A)]))) := hide (by rw [cut2C_app]; exact ho)
        have HR3 := (unhide HR2).only o3 (fun hz => tag_ne (unhide HS2) (unhide HR2) (by decide) hz)
        have k30 := HR3.cell 0
        have k31 := HR3.cell 1
        clear ho hg o3 HR3 HS2 HB2 HC2 HR2 HRA i9 hi9 hz9 hs9 hb9 HS
        go_wp2_with fail
        exact ⟨⟨k + 1, q + 1, A, a4, c4, L ++ [(A, A)], 2, by omega, Nat.le_trans hA (Nat.mul_le_mul_right _ (Nat.le_succ k)), by simp, rfl, rfl, rfl, by omega, hide ⟨unhide HSG2, by rw [List.length_append, (unhide HSG).2]; rfl⟩, HS3, HB3⟩, by simp [intOf]; omega⟩
    · obtain rfl : n = k := by omega
      have HF : Hid (sgL l = (L, A, la)) := hide (by have h9 := (unhide HSG).1; rw [List.take_of_length_le (by rw [unhide HN]; exact Nat.le_refl _)] at h9; exact h9)
      go_wp2_with fail
      go_ret
      exact ⟨_, rfl, by rw [unhide HF]; rw [(unhide HSG).2]; exact unhide HS, unhide HB⟩
end Go.Proofs.YtonabfpgdgnpnaaDoor

namespace Go.Proofs.YtonabfpgdgnpnaaDoor
set_option linter.unusedVariables false
set_option linter.unusedSimpArgs false
open Go.ChangeShapes Go.WideShapes Go.ChangeAt Go.RowKit Go.Joins Go.Deep

theorem info87 : ∃ i, Tryd.prog.info? 87 = some i ∧ i.zero = some (.agg #[.int .i64 0, .int .i64 0]) ∧ i.size = 2 ∧ i.bytes = 16 := info_parts (by kernel_rfl)
set_option maxRecDepth 100000 in
set_option maxHeartbeats 4000000 in
theorem rplaces_any (a : Option Addr) (l : List Pt) (c f t : Nat) (w : World) (hp : PtsAt w a l) (he : IsEd l f t) (hc : l.length ≤ 4000) : Calls Tryd.prog 47 #[.slice a l.length c] w fun r w' => ∃ v, r = .returned v ∧ w'.ownsRow w.heap.size 87 2 v (sgL l).1.length (cut2C (sgL l).1) ∧ Below w.heap.size w w' := by
  have HP := hide hp
  have HE := hide he
  obtain ⟨n, hn⟩ : ∃ z, l.length = z := ⟨_, rfl⟩
  have HN := hide hn
  rw [hn] at hc ⊢
  clear hp he hn
  go_enter Tryd.func47, Tryd.ntmps47
  go_wp2_with fail
  go_loopw [3, 4, 5, 10] (fun tv av lv iv wr => ∃ (k q A : Nat) (a2 : Option Addr) (c2 : Nat) (L : List Cut2) (la : Int) (op : Bool), k ≤ n ∧ A ≤ k * 1099511627776 ∧ iv = .int .i64 (k : Int) ∧ av = .int .i64 (A : Int) ∧ lv = .bool op ∧ tv = .slice a2 q c2 ∧ q ≤ k ∧ Hid (sgL (l.take k) = (L, A, la) ∧ L.length = q) ∧ (la = 2 → op = true) ∧ (la ≠ 2 → op = false) ∧ Hid (wr.ownsRow w.heap.size 87 2 (.slice a2 q c2) q (cut2C L)) ∧ Hid (Below w.heap.size w wr)) (fun _ _ _ iv _ => ((n : Int) - intOf iv).toNat)
  case atStart => exact ⟨0, 0, 0, none, 0, [], 0, false, by omega, by omega, by simp, by simp, by simp, rfl, by omega, hide ⟨rfl, rfl⟩, by simp, by simp, hide (World.ownsRow_nil _ _ _ _), hide (Below.refl _ _)⟩
  case round =>
    obtain ⟨k, q, A, a2, c2, L, la, op, hk, hA, rfl, rfl, rfl, rfl, hqk, HSG, hop1, hop2, HS, HB⟩ := hrel
    by_cases c1 : (k : Int) < (n : Int)
    · obtain ⟨p, hp⟩ : ∃ p, l[k]? = some p := ⟨_, List.getElem?_eq_getElem (by rw [unhide HN]; omega)⟩
      obtain ⟨b, off, rfl, e0, e1, e2⟩ := (unhide HP).at_ (unhide HB) hp
      have hfit := ed_fit (unhide HE) p (List.mem_of_getElem? hp)
      have HNX := hide ((sgL_take hp).trans (by rw [(unhide HSG).1]))
      have hn1 := hfit.1.1
      have hn2 := hfit.2
      have hkd : p.kind = 1 ∨ p.kind = 3 ∨ p.kind = 2 := by
        rcases hfit.1.cases with ⟨h, _⟩ | ⟨h, _⟩ | ⟨h, _⟩
        · exact .inl h
        · exact .inr (.inl h)
        · exact .inr (.inr h)
      obtain ⟨nn, hnn⟩ : ∃ z : Nat, p.n = (z : Int) := ⟨p.n.toNat, by omega⟩
      have hnt : p.n.toNat = nn := by omega
      rw [hnn] at hn1 hn2 e1
      obtain ⟨kd, hkd2⟩ : ∃ z, p.kind = z := ⟨_, rfl⟩
      rw [hkd2] at hkd e0
      have HKN := hide (And.intro hkd2 hnt)
      obtain ⟨tx, htx⟩ : ∃ z, p.text = z := ⟨_, rfl⟩
      rw [htx] at e2
      have HBA := hide ((unhide HB).alloc (unhide HB).size (.cells #[.int .i64 kd, .int .i64 (nn : Int), .string tx] 39))
      have hal0 : Below wr.heap.size wr (wr.alloc (.cells #[.int .i64 kd, .int .i64 (nn : Int), .string tx] 39)) := (Below.refl _ _).alloc (Nat.le_refl _) _
      have HS := hide (own_call (unhide HS) hal0)
      have k0 : (0 : Int) ≤ (k : Int) := by omega
      have hsum : IntKind.i64.wrap ((A : Int) + (nn : Int)) = (A : Int) + (nn : Int) := by rw [IntKind.wrap_i64] <;> omega
      clear hp hfit hnn hnt hkd2 htx hal0
      rcases hkd with hkd | hkd | hkd
      · subst hkd
        have HSG2 : Hid (sgL (l.take (k + 1)) = (L, A + nn, 1)) := hide (by rw [unhide HNX]; unfold sgS; rw [(unhide HKN).1, if_neg (by decide), if_neg (by decide), (unhide HKN).2])
        go_wp2_with fail
        exact ⟨⟨k + 1, q, A + nn, a2, c2, L, 1, false, by omega, by omega, by simp, by simp, by simp, rfl, by omega, hide ⟨unhide HSG2, (unhide HSG).2⟩, by simp, by simp, HS, HBA⟩, by simp [intOf]; omega⟩
      · subst hkd
        by_cases hla : la = 2
        · obtain rfl := hop1 hla
          subst hla
          have HSG2 : Hid (sgL (l.take (k + 1)) = (L.dropLast ++ [((L.getLast?.getD (0, 0)).1, A + nn)], A + nn, 3)) := hide (by rw [unhide HNX]; unfold sgS; rw [(unhide HKN).1, if_neg (by decide), if_pos rfl, if_pos rfl, (unhide HKN).2])
          obtain ⟨M, x0, hMx⟩ : ∃ M x, L = M ++ [x] := by
            rcases List.eq_nil_or_concat L with h9 | ⟨M, x, h9⟩
            · exact absurd h9 (by have := sgL_two (l := l.take k); rw [(unhide HSG).1] at this; exact this rfl)
            · exact ⟨M, x, by rw [h9, List.concat_eq_append]⟩
          obtain ⟨f0, o0⟩ := x0
          subst hMx
          obtain ⟨r, hr⟩ : ∃ z, M.length = z := ⟨_, rfl⟩
          have hqr : q = r + 1 := by rw [← (unhide HSG).2, List.length_append, hr]; rfl
          subst hqr
          obtain ⟨g4, rfl, hg4, hc4⟩ := own_g2 (unhide HS) (by omega)
          have hend := own_c2 (unhide HS) (cut2_end M f0 o0)
          rw [hr] at hend
          have he1 := hend.1
          have he2 := hend.2
          have HS5 := hide (own_set2 (unhide HS) (r * 2 + 1) (.int .i64 ((A + nn : Nat) : Int)) (by omega))
          have hcl := cut2C_last M f0 o0 (A + nn)
          rw [hr] at hcl
          rw [hcl] at HS5
          have HB5 : Hid (Below w.heap.size w ((wr.alloc (.cells #[.int .i64 3, .int .i64 (nn : Int), .string tx] 39)).setCell ⟨g4, r * 2 + 1, none⟩ (.int .i64 ((A + nn : Nat) : Int)))) := hide ((unhide HBA).setCell (by show w.heap.size ≤ g4; exact hg4) _)
          have hqI : ((r + 1 : Nat) : Int) - 1 = (r : Int) := by omega
          have r0 : (0 : Int) ≤ (r : Int) := by omega
          have HR := RowAt.new wr 39 [.int .i64 3, .int .i64 (nn : Int), .string tx]
          have hne9 : g4 ≠ wr.heap.size := fun hz => tag_ne (unhide HS) HR (by decide) (by rw [← hz]; rfl)
          have ho5 : Only (fun z => z = g4) (wr.alloc (.cells #[.int .i64 3, .int .i64 (nn : Int), .string tx] 39)) ((wr.alloc (.cells #[.int .i64 3, .int .i64 (nn : Int), .string tx] 39)).setCell ⟨g4, r * 2 + 1, none⟩ (.int .i64 ((A + nn : Nat) : Int))) := (Only.refl _ _).set g4 (r * 2 + 1) _ rfl
          have k50 := (HR.only ho5 (fun hz => hne9 hz.symm)).cell 0
          have HSG3 : Hid (sgL (l.take (k + 1)) = (M ++ [(f0, A + nn)], A + nn, 3)) := hide (by have h9 := unhide HSG2; simp at h9; exact h9)
          have HLM : Hid ((M ++ [(f0, A + nn)]).length = r + 1) := hide (by rw [List.length_append, hr]; rfl)
          clear hend hcl hr HR ho5 HS HBA
          go_wp2_with fail
          exact ⟨⟨k + 1, r + 1, A + nn, _, c2, M ++ [(f0, A + nn)], 3, false, by omega, by omega, by simp, by simp, by simp, rfl, by omega, hide ⟨unhide HSG3, unhide HLM⟩, by simp, by simp, HS5, HB5⟩, by simp [intOf]; omega⟩
        · obtain rfl := hop2 hla
          have HSG2 : Hid (sgL (l.take (k + 1)) = (L ++ [(A, A + nn)], A + nn, 3)) := hide (by rw [unhide HNX]; unfold sgS; rw [(unhide HKN).1, if_neg (by decide), if_pos rfl, if_neg hla, (unhide HKN).2])
          have HRA := hide (RowAt.new wr 39 [.int .i64 3, .int .i64 (nn : Int), .string tx])
          have hal : Below (wr.alloc (.cells #[.int .i64 3, .int .i64 (nn : Int), .string tx] 39)).heap.size (wr.alloc (.cells #[.int .i64 3, .int .i64 (nn : Int), .string tx] 39)) ((wr.alloc (.cells #[.int .i64 3, .int .i64 (nn : Int), .string tx] 39)).alloc (.cells #[.int .i64 (A : Int), .int .i64 (A : Int)] 87)) := (Below.refl _ _).alloc (Nat.le_refl _) _
          have HS2 := hide (own_call (unhide HS) hal)
          have HB2 := hide ((unhide HBA).trans (hal.mono (unhide HBA).size))
          have hsz9 : (wr.alloc (.cells #[.int .i64 3, .int .i64 (nn : Int), .string tx] 39)).heap.size = wr.heap.size + 1 := alloc_size9 _ _
          have HC2 := hide (RowAt.new (wr.alloc (.cells #[.int .i64 3, .int .i64 (nn : Int), .string tx] 39)) 87 [.int .i64 (A : Int), .int .i64 (A : Int)])
          rw [hsz9] at HC2
          clear hsz9
          have HR2 := hide ((unhide HRA).below hal (unhide HRA).lt)
          clear hal
          go_wp2_with (at_builtin; refine unhide ?_)
          obtain ⟨i9, hi9, hz9, hs9, hb9⟩ := info87
          refine hide ?_
          refine wpList_append_own_at _ rfl _ _ 85 rfl w.heap.size 87 i9 (.agg #[.int .i64 0, .int .i64 0]) 2 16 Tryd.underlying85 hi9 hz9 hs9 hb9 rfl (by decide) (.slice a2 q c2) q (cut2C L) rfl (unhide HS2) ⟨wr.heap.size + 1, 0, none⟩ 1 1 [.int .i64 (A : Int), .int .i64 (A : Int)] rfl rfl (fun j u hj => by
            have h9 := (unhide HC2).cell j
            rw [hj] at h9
            rw [Addr.add_lit, Nat.zero_add]
            exact h9) (fun u hu => by
            simp only [List.mem_cons, List.not_mem_nil, or_false] at hu
            rcases hu with rfl | rfl <;> rfl) (by unfold maxLen; omega) (by omega) (unhide HB2).size ?_
          intro v' w3 ho hg _ _
          obtain ⟨a4, c4, rfl, _, _⟩ := own_sl3 ho
          have o3 := grown_only hg
          have HB3 := hide ((unhide HB2).trans (o3.below (unhide HB2).size (fun z hz => ((unhide HS2).lt z hz).1)))
          have HS3 : Hid (w3.ownsRow w.heap.size 87 2 (.slice a4 (q + 1) c4) (q + 1) (cut2C (L ++ [(A, A)]))) := hide (by rw [cut2C_app]; exact ho)
          have HR3 := (unhide HR2).only o3 (fun hz => tag_ne (unhide HS2) (unhide HR2) (by decide) hz)
          have k30 := HR3.cell 0
          have k31 := HR3.cell 1
          obtain ⟨g4, rfl, hg4, hc4⟩ := own_g2 (unhide HS3) (by omega)
          have hend := own_c2 (unhide HS3) (cut2_end L A A)
          rw [(unhide HSG).2] at hend
          have he1 := hend.1
          have he2 := hend.2
          have HS5 := hide (own_set2 (unhide HS3) (q * 2 + 1) (.int .i64 ((A + nn : Nat) : Int)) (by omega))
          have HB5 : Hid (Below w.heap.size w (w3.setCell ⟨g4, q * 2 + 1, none⟩ (.int .i64 ((A + nn : Nat) : Int)))) := hide ((unhide HB3).setCell (by show w.heap.size ≤ g4; exact hg4) _)
          have q0 : (0 : Int) ≤ (q : Int) := by omega
          have hcl := cut2C_last L A A (A + nn)
          rw [(unhide HSG).2] at hcl
          rw [hcl] at HS5
          have hne9 : g4 ≠ wr.heap.size := fun hz => tag_ne (unhide HS3) HR3 (by decide) (by rw [← hz]; rfl)
          have ho5 : Only (fun z => z = g4) w3 (w3.setCell ⟨g4, q * 2 + 1, none⟩ (.int .i64 ((A + nn : Nat) : Int))) := (Only.refl _ _).set g4 (q * 2 + 1) _ rfl
          have HR5 := HR3.only ho5 (fun hz => hne9 hz.symm)
          have k50 := HR5.cell 0
          clear ho5 HR5
          clear ho hg o3 HR3 HS2 HB2 HC2 HR2 HRA i9 hi9 hz9 hs9 hb9 HS HS3 HB3 hend hcl
          go_wp2_with fail
          exact ⟨⟨k + 1, q + 1, A + nn, _, c4, L ++ [(A, A + nn)], 3, false, by omega, by omega, by simp, by simp, by simp, rfl, by omega, hide ⟨unhide HSG2, by rw [List.length_append, (unhide HSG).2]; rfl⟩, by simp, by simp, HS5, HB5⟩, by simp [intOf]; omega⟩
      · subst hkd
        have HSG2 : Hid (sgL (l.take (k + 1)) = (L ++ [(A, A)], A, 2)) := hide (by rw [unhide HNX]; unfold sgS; rw [(unhide HKN).1, if_pos rfl])
        have HRA := hide (RowAt.new wr 39 [.int .i64 2, .int .i64 (nn : Int), .string tx])
        have hal : Below (wr.alloc (.cells #[.int .i64 2, .int .i64 (nn : Int), .string tx] 39)).heap.size (wr.alloc (.cells #[.int .i64 2, .int .i64 (nn : Int), .string tx] 39)) ((wr.alloc (.cells #[.int .i64 2, .int .i64 (nn : Int), .string tx] 39)).alloc (.cells #[.int .i64 (A : Int), .int .i64 (A : Int)] 87)) := (Below.refl _ _).alloc (Nat.le_refl _) _
        have HS2 := hide (own_call (unhide HS) hal)
        have HB2 := hide ((unhide HBA).trans (hal.mono (unhide HBA).size))
        have hsz9 : (wr.alloc (.cells #[.int .i64 2, .int .i64 (nn : Int), .string tx] 39)).heap.size = wr.heap.size + 1 := alloc_size9 _ _
        have HC2 := hide (RowAt.new (wr.alloc (.cells #[.int .i64 2, .int .i64 (nn : Int), .string tx] 39)) 87 [.int .i64 (A : Int), .int .i64 (A : Int)])
        rw [hsz9] at HC2
        clear hsz9
        have HR2 := hide ((unhide HRA).below hal (unhide HRA).lt)
        clear hal
        go_wp2_with (at_builtin; refine unhide ?_)
        obtain ⟨i9, hi9, hz9, hs9, hb9⟩ := info87
        refine hide ?_
        refine wpList_append_own_at _ rfl _ _ 85 rfl w.heap.size 87 i9 (.agg #[.int .i64 0, .int .i64 0]) 2 16 Tryd.underlying85 hi9 hz9 hs9 hb9 rfl (by decide) (.slice a2 q c2) q (cut2C L) rfl (unhide HS2) ⟨wr.heap.size + 1, 0, none⟩ 1 1 [.int .i64 (A : Int), .int .i64 (A : Int)] rfl rfl (fun j u hj => by
          have h9 := (unhide HC2).cell j
          rw [hj] at h9
          rw [Addr.add_lit, Nat.zero_add]
          exact h9) (fun u hu => by
          simp only [List.mem_cons, List.not_mem_nil, or_false] at hu
          rcases hu with rfl | rfl <;> rfl) (by unfold maxLen; omega) (by omega) (unhide HB2).size ?_
        intro v' w3 ho hg _ _
        obtain ⟨a4, c4, rfl, _, _⟩ := own_sl3 ho
        have o3 := grown_only hg
        have HB3 := hide ((unhide HB2).trans (o3.below (unhide HB2).size (fun z hz => ((unhide HS2).lt z hz).1)))
        have HS3 : Hid (w3.ownsRow w.heap.size 87 2 (.slice a4 (q + 1) c4) (q + 1) (cut2C (L ++ [(A, A)]))) := hide (by rw [cut2C_app]; exact ho)
        have HR3 := (unhide HR2).only o3 (fun hz => tag_ne (unhide HS2) (unhide HR2) (by decide) hz)
        have k30 := HR3.cell 0
        have k31 := HR3.cell 1
        clear ho hg o3 HR3 HS2 HB2 HC2 HR2 HRA i9 hi9 hz9 hs9 hb9 HS
        go_wp2_with fail
        exact ⟨⟨k + 1, q + 1, A, a4, c4, L ++ [(A, A)], 2, true, by omega, Nat.le_trans hA (Nat.mul_le_mul_right _ (Nat.le_succ k)), by simp, rfl, rfl, rfl, by omega, hide ⟨unhide HSG2, by rw [List.length_append, (unhide HSG).2]; rfl⟩, by simp, by simp, HS3, HB3⟩, by simp [intOf]; omega⟩
    · obtain rfl : n = k := by omega
      have HF : Hid (sgL l = (L, A, la)) := hide (by have h9 := (unhide HSG).1; rw [List.take_of_length_le (by rw [unhide HN]; exact Nat.le_refl _)] at h9; exact h9)
      go_wp2_with fail
      go_ret
      exact ⟨_, rfl, by rw [unhide HF]; rw [(unhide HSG).2]; exact unhide HS, unhide HB⟩
end Go.Proofs.YtonabfpgdgnpnaaDoor

namespace Go.Proofs.YtonabfpgdgnpnaaDoor
set_option linter.unusedVariables false
set_option linter.unusedSimpArgs false
open Go.Lib

/-- how many bytes a code point has that begins so; 0: none does -/
def wfK (b : Nat) : Nat := if b < 128 then 1 else if 194 ≤ b ∧ b ≤ 223 then 2 else if 224 ≤ b ∧ b ≤ 239 then 3 else if 240 ≤ b ∧ b ≤ 244 then 4 else 0
def wfLo (b : Nat) : Nat := if b = 224 then 160 else if b = 240 then 144 else 128
def wfHi (b : Nat) : Nat := if b = 237 then 159 else if b = 244 then 143 else 191
/-- these are well formed -/
def Wf (n b0 b1 b2 b3 : Nat) : Prop := wfK b0 ≠ 0 ∧ wfK b0 ≤ n ∧ (1 < wfK b0 → wfLo b0 ≤ b1 ∧ b1 ≤ wfHi b0) ∧ (2 < wfK b0 → 128 ≤ b2 ∧ b2 ≤ 191) ∧ (3 < wfK b0 → 128 ≤ b3 ∧ b3 ≤ 191)
theorem wf_dec {n b0 b1 b2 b3 : Nat} (h0 : b0 < 256) (h1 : b1 < 256) (h2 : b2 < 256) (h3 : b3 < 256) (hn : 1 ≤ n) :
    (Wf n b0 b1 b2 b3 → ¬ ((decodeN n b0 b1 b2 b3).1 = 65533 ∧ (decodeN n b0 b1 b2 b3).2 = 1) ∧ (decodeN n b0 b1 b2 b3).2 = wfK b0) ∧ (¬ Wf n b0 b1 b2 b3 → (decodeN n b0 b1 b2 b3).1 = 65533 ∧ (decodeN n b0 b1 b2 b3).2 = 1) := by
  by_cases a0 : b0 < 128
  · have hk : wfK b0 = 1 := by unfold wfK; rw [if_pos a0]
    have hd : decodeN n b0 b1 b2 b3 = (b0, 1) := by unfold decodeN; rw [if_pos a0]
    refine ⟨fun _ => ?_, fun hw => ?_⟩
    · rw [hd, hk]; simp; omega
    · exfalso; apply hw
      refine ⟨by omega, by omega, fun h => by omega, fun h => by omega, fun h => by omega⟩
  by_cases a1 : 194 ≤ b0 ∧ b0 ≤ 223
  · have hk : wfK b0 = 2 := by unfold wfK; rw [if_neg a0, if_pos a1]
    have hlo : wfLo b0 = 128 := by unfold wfLo; rw [if_neg (by omega), if_neg (by omega)]
    have hhi : wfHi b0 = 191 := by unfold wfHi; rw [if_neg (by omega), if_neg (by omega)]
    by_cases hc : 1 < n ∧ b1 / 64 = 2
    · have hd : decodeN n b0 b1 b2 b3 = (b0 % 32 * 64 + b1 % 64, 2) := by
        unfold decodeN; rw [if_neg a0, if_pos ⟨by omega, hc⟩, if_pos (by omega)]
      refine ⟨fun _ => by rw [hd, hk]; simp, fun hw => ?_⟩
      exfalso; apply hw
      refine ⟨by omega, by omega, fun h => by omega, fun h => by omega, fun h => by omega⟩
    · have hd : decodeN n b0 b1 b2 b3 = (65533, 1) := by
        unfold decodeN; rw [if_neg a0, if_neg (by omega), if_neg (by omega), if_neg (by omega)]
      refine ⟨fun hw => ?_, fun _ => by rw [hd]; simp⟩
      exfalso
      obtain ⟨w1, w2, w3, _⟩ := hw
      have := w3 (by omega)
      omega
  by_cases a2 : 224 ≤ b0 ∧ b0 ≤ 239
  · have hk : wfK b0 = 3 := by unfold wfK; rw [if_neg a0, if_neg a1, if_pos a2]
    by_cases hc : (1 < n ∧ b1 / 64 = 2) ∧ (2 < n ∧ b2 / 64 = 2)
    · have hd : decodeN n b0 b1 b2 b3 = (if b0 % 16 * 4096 + b1 % 64 * 64 + b2 % 64 ≥ 2048 ∧ (b0 % 16 * 4096 + b1 % 64 * 64 + b2 % 64 < 55296 ∨ (57344 ≤ b0 % 16 * 4096 + b1 % 64 * 64 + b2 % 64 ∧ b0 % 16 * 4096 + b1 % 64 * 64 + b2 % 64 ≤ 1114111)) then (b0 % 16 * 4096 + b1 % 64 * 64 + b2 % 64, 3) else (65533, 1)) := by
        unfold decodeN; rw [if_neg a0, if_neg (by omega), if_pos ⟨by omega, hc.1, hc.2⟩]
      by_cases hv : b0 % 16 * 4096 + b1 % 64 * 64 + b2 % 64 ≥ 2048 ∧ (b0 % 16 * 4096 + b1 % 64 * 64 + b2 % 64 < 55296 ∨ (57344 ≤ b0 % 16 * 4096 + b1 % 64 * 64 + b2 % 64 ∧ b0 % 16 * 4096 + b1 % 64 * 64 + b2 % 64 ≤ 1114111))
      · rw [if_pos hv] at hd
        refine ⟨fun _ => by rw [hd, hk]; simp, fun hw => ?_⟩
        exfalso; apply hw
        refine ⟨by omega, by omega, fun h => ?_, fun h => by omega, fun h => by omega⟩
        unfold wfLo wfHi
        constructor <;> split <;> (try split) <;> omega
      · rw [if_neg hv] at hd
        refine ⟨fun hw => ?_, fun _ => by rw [hd]; simp⟩
        exfalso; apply hv
        obtain ⟨w1, w2, w3, _⟩ := hw
        have h5 := w3 (by omega)
        unfold wfLo wfHi at h5
        by_cases e1 : b0 = 224
        · rw [if_pos e1] at h5; subst e1; simp at h5; omega
        · rw [if_neg e1] at h5
          by_cases e2 : b0 = 237
          · subst e2; simp at h5; omega
          · rw [if_neg e2] at h5; omega
    · have hd : decodeN n b0 b1 b2 b3 = (65533, 1) := by
        unfold decodeN; rw [if_neg a0, if_neg (by omega), if_neg (fun q => hc ⟨q.2.1, q.2.2⟩), if_neg (by omega)]
      refine ⟨fun hw => ?_, fun _ => by rw [hd]; simp⟩
      exfalso
      obtain ⟨w1, w2, w3, w4, _⟩ := hw
      have h5 := w3 (by omega)
      have h6 := w4 (by omega)
      have hlo : 128 ≤ wfLo b0 := by unfold wfLo; split; omega; split <;> omega
      have hhi : wfHi b0 ≤ 191 := by unfold wfHi; split; omega; split <;> omega
      omega
  by_cases a3 : 240 ≤ b0 ∧ b0 ≤ 244
  · have hk : wfK b0 = 4 := by unfold wfK; rw [if_neg a0, if_neg a1, if_neg a2, if_pos a3]
    by_cases hc : (1 < n ∧ b1 / 64 = 2) ∧ (2 < n ∧ b2 / 64 = 2) ∧ (3 < n ∧ b3 / 64 = 2)
    · have hd : decodeN n b0 b1 b2 b3 = (if b0 % 8 * 262144 + b1 % 64 * 4096 + b2 % 64 * 64 + b3 % 64 ≥ 65536 ∧ (b0 % 8 * 262144 + b1 % 64 * 4096 + b2 % 64 * 64 + b3 % 64 < 55296 ∨ (57344 ≤ b0 % 8 * 262144 + b1 % 64 * 4096 + b2 % 64 * 64 + b3 % 64 ∧ b0 % 8 * 262144 + b1 % 64 * 4096 + b2 % 64 * 64 + b3 % 64 ≤ 1114111)) then (b0 % 8 * 262144 + b1 % 64 * 4096 + b2 % 64 * 64 + b3 % 64, 4) else (65533, 1)) := by
        unfold decodeN; rw [if_neg a0, if_neg (by omega), if_neg (by omega), if_pos ⟨by omega, hc.1, hc.2.1, hc.2.2⟩]
      by_cases hv : b0 % 8 * 262144 + b1 % 64 * 4096 + b2 % 64 * 64 + b3 % 64 ≥ 65536 ∧ (b0 % 8 * 262144 + b1 % 64 * 4096 + b2 % 64 * 64 + b3 % 64 < 55296 ∨ (57344 ≤ b0 % 8 * 262144 + b1 % 64 * 4096 + b2 % 64 * 64 + b3 % 64 ∧ b0 % 8 * 262144 + b1 % 64 * 4096 + b2 % 64 * 64 + b3 % 64 ≤ 1114111))
      · rw [if_pos hv] at hd
        refine ⟨fun _ => by rw [hd, hk]; simp, fun hw => ?_⟩
        exfalso; apply hw
        refine ⟨by omega, by omega, fun h => ?_, fun h => by omega, fun h => by omega⟩
        unfold wfLo wfHi
        constructor <;> split <;> (try split) <;> omega
      · rw [if_neg hv] at hd
        refine ⟨fun hw => ?_, fun _ => by rw [hd]; simp⟩
        exfalso; apply hv
        obtain ⟨w1, w2, w3, w4, w5⟩ := hw
        have h5 := w3 (by omega)
        have h6 := w4 (by omega)
        have h7 := w5 (by omega)
        unfold wfLo wfHi at h5
        rw [if_neg (by omega)] at h5
        by_cases e1 : b0 = 240
        · subst e1; simp at h5; omega
        · rw [if_neg e1, if_neg (by omega)] at h5
          by_cases e2 : b0 = 244
          · subst e2; simp at h5; omega
          · rw [if_neg e2] at h5; omega
    · have hd : decodeN n b0 b1 b2 b3 = (65533, 1) := by
        unfold decodeN; rw [if_neg a0, if_neg (by omega), if_neg (by omega), if_neg (fun q => hc ⟨q.2.1, q.2.2.1, q.2.2.2⟩)]
      refine ⟨fun hw => ?_, fun _ => by rw [hd]; simp⟩
      exfalso
      obtain ⟨w1, w2, w3, w4, w5⟩ := hw
      have h5 := w3 (by omega)
      have h6 := w4 (by omega)
      have h7 := w5 (by omega)
      have hlo : 128 ≤ wfLo b0 := by unfold wfLo; split; omega; split <;> omega
      have hhi : wfHi b0 ≤ 191 := by unfold wfHi; split; omega; split <;> omega
      omega
  · have hk : wfK b0 = 0 := by unfold wfK; rw [if_neg a0, if_neg a1, if_neg a2, if_neg a3]
    refine ⟨fun hw => absurd hk hw.1, fun _ => ?_⟩
    have hd : decodeN n b0 b1 b2 b3 = (65533, 1) := by
      unfold decodeN
      rw [if_neg a0]
      by_cases c1 : b0 / 32 = 6 ∧ (1 < n ∧ b1 / 64 = 2)
      · rw [if_pos c1, if_neg (by omega)]
      · rw [if_neg c1, if_neg (by omega)]
        by_cases c3 : b0 / 8 = 30 ∧ (1 < n ∧ b1 / 64 = 2) ∧ (2 < n ∧ b2 / 64 = 2) ∧ (3 < n ∧ b3 / 64 = 2)
        · rw [if_pos c3, if_neg (by omega)]
        · rw [if_neg c3]
    rw [hd]; simp
/-- behind code points: the rest decides -/
theorem valid_pre : ∀ (pre : List (List UInt8)) (bs : List UInt8), Cps pre → validD (pre.flatten ++ bs) = validD bs
  | [], bs, _ => by simp
  | c :: pre, bs, h => by
    have hc := h.head
    rw [List.flatten_cons, List.append_assoc, validD_step _ (by simp [hc.ne]), hc.front, if_neg hc.ok, hc.all, List.drop_left]
    exact valid_pre pre bs h.tail
end Go.Proofs.YtonabfpgdgnpnaaDoor
