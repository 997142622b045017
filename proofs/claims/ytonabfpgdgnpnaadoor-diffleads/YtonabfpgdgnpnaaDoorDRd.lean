/- Texts that are read. -/
import Derived.Test.YtonabfpgdgnpnaaDoorDLd
namespace Go.Proofs.YtonabfpgdgnpnaaDoor
set_option linter.unusedVariables false
set_option linter.unusedSimpArgs false
open Go.ChangeShapes Go.WideShapes Go.ChangeAt Go.RowKit Go.Joins Go.Deep

theorem info54 : ∃ i, Tryd.prog.info? 54 = some i ∧ i.zero = some (.slice none 0 0) ∧ i.size = 1 ∧ i.bytes = 24 := info_parts (by kernel_rfl)
def chkE (s : ByteArray) : Int := if Lib.validD s.data.toList = false then 21 else if 1024 < Lib.runeCount s then 4 else 0
def firstE : List ByteArray → Int
  | [] => 0
  | s :: l => if chkE s = 0 then firstE l else chkE s
def AllOk (l : List ByteArray) (k : Nat) : Prop := ∀ (i : Nat) s, i < k → l[i]? = some s → chkE s = 0
theorem AllOk.zero (l : List ByteArray) : AllOk l 0 := fun i s h => by omega
theorem AllOk.next {l : List ByteArray} {k : Nat} {s : ByteArray} (h : AllOk l k) (hs : l[k]? = some s) (he : chkE s = 0) : AllOk l (k + 1) := fun i t hi ht => by
  by_cases e : i = k
  · subst e
    rw [hs] at ht
    injection ht with e2
    rw [← e2]
    exact he
  · exact h i t (by omega) ht
theorem first_at : ∀ {l : List ByteArray} {k : Nat} {s : ByteArray}, AllOk l k → l[k]? = some s → chkE s ≠ 0 → firstE l = chkE s
  | [], k, s, _, h, _ => by simp at h
  | t :: l, 0, s, _, h, he => by
    simp at h
    subst h
    rw [firstE, if_neg he]
  | t :: l, k + 1, s, ha, h, he => by
    rw [firstE, if_pos (ha 0 t (by omega) rfl)]
    exact first_at (k := k) (fun i u hi hu => ha (i + 1) u (by omega) (by simpa using hu)) (by simpa using h) he
theorem first_all : ∀ {l : List ByteArray}, AllOk l l.length → firstE l = 0
  | [], _ => rfl
  | t :: l, ha => by
    rw [firstE, if_pos (ha 0 t (by simp) rfl)]
    exact first_all (fun i u hi hu => ha (i + 1) u (by simp; omega) (by simpa using hu))
theorem first_ok : ∀ {l : List ByteArray}, firstE l = 0 → ∀ s ∈ l, chkE s = 0
  | [], _, s, h => by cases h
  | t :: l, he, s, h => by
    rw [firstE] at he
    by_cases e : chkE t = 0
    · rw [if_pos e] at he
      rcases List.mem_cons.1 h with rfl | h
      · exact e
      · exact first_ok he s h
    · rw [if_neg e] at he
      exact absurd he e
theorem chk_ok {s : ByteArray} (h : chkE s = 0) : ∃ x, Tx s x ∧ x.length ≤ 1024 := by
  unfold chkE at h
  cases hv : Lib.validD s.data.toList with
  | false => rw [hv] at h; simp at h
  | true =>
    obtain ⟨x, hx⟩ := tx_of_valid hv
    refine ⟨x, hx, ?_⟩
    rw [hv, hx.count] at h
    simp at h
    omega
theorem chk_tx {s : ByteArray} {x : List CP} (h : Tx s x) : chkE s = if 1024 < x.length then 4 else 0 := by
  unfold chkE
  rw [h.valid, h.count]
  simp
theorem chk_no {s : ByteArray} (h : Lib.validD s.data.toList = false) : chkE s = 21 := by
  unfold chkE
  rw [if_pos h]
/-- texts that were read: a row of rows of runes -/
structure Rd (w : World) (B : Nat) (v : Value) (vs : List Value) (X : List (List CP)) : Prop where
  own : w.ownsRow B 54 1 v X.length vs
  each : ∀ (i : Nat) u x, vs[i]? = some u → X[i]? = some x → w.ownsRow B 21 1 u x.length (rnv x)
theorem Rd.len {w : World} {B : Nat} {v : Value} {vs : List Value} {X : List (List CP)} (h : Rd w B v vs X) : vs.length = X.length := by have := h.own.1; omega
theorem Rd.call {w w' : World} {B : Nat} {v : Value} {vs : List Value} {X : List (List CP)} (h : Rd w B v vs X) (hb : Below w.heap.size w w') : Rd w' B v vs X := ⟨own_call h.own hb, fun i u x h1 h2 => own_call (h.each i u x h1 h2) hb⟩
def TxAll (l : List ByteArray) (X : List (List CP)) : Prop := ∀ (i : Nat) s x, l[i]? = some s → X[i]? = some x → Tx s x ∧ x.length ≤ 1024
def ReadR (l : List ByteArray) (w : World) (r : Ending) (w' : World) : Prop := (firstE l ≠ 0 ∧ r = .returned (.tuple #[.slice none 0 0, .int .i64 (firstE l)]) ∨ firstE l = 0 ∧ ∃ v vs X, r = .returned (.tuple #[v, .int .i64 0]) ∧ Rd w' w.heap.size v vs X ∧ TxAll l X ∧ X.length = l.length) ∧ Below w.heap.size w w'
theorem app_get {α : Type} {l : List α} {a u : α} {i : Nat} (h : (l ++ [a])[i]? = some u) : l[i]? = some u ∨ i = l.length ∧ u = a := by
  by_cases hi : i < l.length
  · rw [List.getElem?_append_left hi] at h
    exact .inl h
  · rw [List.getElem?_append_right (by omega)] at h
    have : i - l.length = 0 := by
      have := (List.getElem?_eq_some_iff.1 h).1
      simp at this
      omega
    rw [this] at h
    simp at h
    exact .inr ⟨by omega, h.symm⟩
theorem TxAll.next {l : List ByteArray} {X : List (List CP)} {s : ByteArray} {x : List CP} (h : TxAll l X) (hs : l[X.length]? = some s) (hx : Tx s x) (hl : x.length ≤ 1024) : TxAll l (X ++ [x]) := fun i t y ht hy => by
  rcases app_get hy with hy | ⟨rfl, rfl⟩
  · exact h i t y ht hy
  · rw [hs] at ht
    injection ht with e
    subst e
    exact ⟨hx, hl⟩
structure RdI (w wr : World) (l : List ByteArray) (v : Value) (k : Nat) (vs : List Value) (X : List (List CP)) : Prop where
  rd : Rd wr w.heap.size v vs X
  tx : TxAll l X
  len : X.length = k
  ok : AllOk l k
  bel : Below w.heap.size w wr
set_option maxRecDepth 100000 in
set_option maxHeartbeats 4000000 in
theorem read_any (B : Nat) (v : Value) (l : List ByteArray) (w : World) (hT : UT w) (h : w.ownsRow B 9 1 v l.length (l.map .string)) (hl : l.length ≤ 1000) (hs : ∀ s ∈ l, s.size ≤ 1099511627776) : Calls Tryd.prog 29 #[v] w fun r w' => ReadR l w r w' := by
  obtain ⟨a, c, rfl, hc, hcm⟩ := own_sl h
  have HU : Hid (∀ W, Below w.heap.size w W → UT W) := hide (fun W h => hT.call h)
  have HO := hide h
  have HSZ := hide hs
  obtain ⟨n, hn⟩ : ∃ z, l.length = z := ⟨_, rfl⟩
  have HN := hide hn
  rw [hn] at HO hc hl ⊢
  have HI0 : Hid (RdI w w l (.slice none 0 0) 0 [] []) := hide ⟨⟨World.ownsRow_nil _ _ _ _, fun i u x h => by simp at h⟩, fun i s x _ h => by simp at h, rfl, AllOk.zero _, Below.refl _ _⟩
  clear hT h hs hn
  go_enter Tryd.func29, Tryd.ntmps29
  go_wp2_with fail
  go_loopw [4, 11] (fun ov kv wr => ∃ (k : Nat) (a2 : Option Addr) (c2 : Nat) (vs : List Value) (X : List (List CP)), k ≤ n ∧ kv = .int .i64 (k : Int) ∧ ov = .slice a2 k c2 ∧ Hid (RdI w wr l (.slice a2 k c2) k vs X)) (fun _ kv _ => ((n : Int) - intOf kv).toNat)
  case atStart => exact ⟨0, none, 0, [], [], by omega, by simp, rfl, HI0⟩
  case round =>
    clear HI0
    obtain ⟨k, a2, c2, vs, X, hk, rfl, rfl, HI⟩ := hrel
    by_cases c1 : (k : Int) < (n : Int)
    · obtain ⟨s, hs⟩ : ∃ s, l[k]? = some s := ⟨_, List.getElem?_eq_getElem (by rw [unhide HN]; omega)⟩
      have hO := own_call (unhide HO) (unhide HI).bel
      obtain ⟨gs, c3, e, hcell, _⟩ := own_rd hO (i := k) (u := .string s) (by simp [hs])
      injection e with e1 e2 e3
      clear e2
      subst e1 e3
      have hsz := unhide HSZ s (List.mem_of_getElem? hs)
      have KT := hide (trunes_any s 1024 wr (unhide HU _ (unhide HI).bel) (by omega))
      have HS := hide hs
      have k0 : (0 : Int) ≤ (k : Int) := by omega
      clear hs hO
      go_wp2_with fail
      refine Calls.mono (unhide KT) ?_
      rintro r w2 ⟨h2, b2⟩
      have hB2 := (unhide HI).bel.trans (b2.mono (unhide HI).bel.size)
      have HB2 := hide hB2
      have HRD := hide ((unhide HI).rd.call b2)
      have hBs := (unhide HI).bel.size
      have HBS := hide hBs
      clear b2 hB2 hBs KT hcell
      rcases h2 with ⟨hv, rfl⟩ | ⟨x, hx, ⟨h1, rfl⟩ | ⟨h1, u, rfl, ho, -⟩⟩
      · have hce := chk_no hv
        have hf : firstE l = 21 := by rw [first_at (unhide HI).ok (unhide HS) (by rw [hce]; decide), hce]
        have HF := hide hf
        clear hv hce hf
        go_wp2_with fail
        go_ret2
        exact ⟨.inl ⟨by rw [unhide HF]; decide, by rw [unhide HF]; rfl⟩, unhide HB2⟩
      · have hce := chk_tx hx
        rw [if_pos (by omega)] at hce
        have hf : firstE l = 4 := by rw [first_at (unhide HI).ok (unhide HS) (by rw [hce]; decide), hce]
        have HF := hide hf
        clear hx hce hf h1
        go_wp2_with fail
        go_ret2
        exact ⟨.inl ⟨by rw [unhide HF]; decide, by rw [unhide HF]; rfl⟩, unhide HB2⟩
      · have hce := chk_tx hx
        rw [if_neg (by omega)] at hce
        have HOK := hide ((unhide HI).ok.next (unhide HS) hce)
        have HTX := hide ((unhide HI).tx.next (by rw [(unhide HI).len]; exact unhide HS) hx (by omega))
        have HXL := hide (unhide HI).len
        obtain ⟨a5, c5, rfl, _, _⟩ := own_sl ho
        have HUO := hide (own_base ho (unhide HBS))
        obtain ⟨q, hq⟩ : ∃ z, x.length = z := ⟨_, rfl⟩
        have HQ := hide hq
        rw [hq] at HUO ⊢
        have hal : Below w2.heap.size w2 (w2.alloc (.cells #[.slice a5 q c5] 54)) := (Below.refl _ _).alloc (Nat.le_refl _) _
        have HB3 := hide ((unhide HB2).trans (hal.mono (unhide HB2).size))
        have HRD3 := hide ((unhide HRD).call hal)
        have HUO3 := hide (own_call (unhide HUO) hal)
        have HS2 : Hid ((w2.alloc (.cells #[.slice a5 q c5] 54)).ownsRow w.heap.size 54 1 (.slice a2 k c2) k vs) := hide (by have h9 := (unhide HRD3).own; rw [unhide HXL] at h9; exact h9)
        have HC2 := hide ((RowAt.new w2 54 [.slice a5 q c5]).cell 0)
        clear hal hx hce ho hq h1 HI HUO HRD HB2
        go_wp2_with (at_builtin; refine unhide ?_)
        obtain ⟨i9, hi9, hz9, hs9, hb9⟩ := info54
        refine hide ?_
        refine wpList_append_own_at _ rfl _ _ 50 rfl w.heap.size 54 i9 (.slice none 0 0) 1 24 Tryd.underlying50 hi9 hz9 hs9 hb9 rfl (by decide) (.slice a2 k c2) k vs rfl (unhide HS2) ⟨w2.heap.size, 0, none⟩ 1 1 [.slice a5 q c5] rfl rfl (fun j u hj => by
          match j, hj with
          | 0, hj =>
            obtain rfl : (.slice a5 q c5 : Value) = u := by simpa using hj
            exact unhide HC2) (fun u hu => by rw [List.mem_singleton] at hu; rw [hu]; rfl) (by unfold maxLen; omega) (by omega) (unhide HB3).size ?_
        intro v' w3 ho hg _ _
        obtain ⟨a3, c3, rfl, _⟩ := own_sl ho
        have o3 := grown_only hg
        have HR3 : Hid (RdI w w3 l (.slice a3 (k + 1) c3) (k + 1) (vs ++ [.slice a5 q c5]) (X ++ [x])) := hide ⟨⟨by rw [List.length_append, unhide HXL]; exact ho, fun i u y hu hy => by
          rcases app_get hu with hu | ⟨hiu, rfl⟩
          · rcases app_get hy with hy | ⟨hiy, rfl⟩
            · have h9 := (unhide HRD3).each i u y hu hy
              exact own_only h9 o3 (fun q hq hp => own_ne h9 (unhide HS2) (by decide) q hq hp)
            · exfalso
              have h8 := (List.getElem?_eq_some_iff.1 hu).1
              have h7 := (unhide HRD3).len
              omega
          · have h7 := (unhide HRD3).len
            rw [h7] at hiu
            rcases app_get hy with hy | ⟨hiy, rfl⟩
            · exfalso
              have h8 := (List.getElem?_eq_some_iff.1 hy).1
              omega
            · have h9 := unhide HUO3
              rw [unhide HQ]
              exact own_only h9 o3 (fun q hq hp => own_ne h9 (unhide HS2) (by decide) q hq hp)⟩, unhide HTX, by rw [List.length_append, unhide HXL]; rfl, unhide HOK, (unhide HB3).trans (o3.below (unhide HB3).size (fun q hq => ((unhide HS2).lt q hq).1))⟩
        clear ho hg o3 HS2 HC2 HRD3 HUO3 HB3 i9 hi9 hz9 hs9 hb9
        go_wp2_with fail
        exact ⟨⟨k + 1, a3, c3, _, _, by omega, by simp, by simp, HR3⟩, by simp [intOf]; omega⟩
    · obtain rfl : n = k := by omega
      have HF := hide (first_all (by rw [unhide HN]; exact (unhide HI).ok))
      go_wp2_with fail
      go_ret2
      exact ⟨.inr ⟨unhide HF, _, _, _, rfl, (unhide HI).rd, (unhide HI).tx, by rw [(unhide HI).len, unhide HN]⟩, (unhide HI).bel⟩
end Go.Proofs.YtonabfpgdgnpnaaDoor
