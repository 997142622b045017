/- Reading, Diff, Kept, Merge, the awakening and longer of the diff, as one. -/
import Derived.Test.YtonabfpgdgnpnaaDoorDA
import Derived.Test.YtonabfpgdgnpnaaDoorSam
namespace Go.Proofs.YtonabfpgdgnpnaaDoor
set_option linter.unusedVariables false
set_option linter.unusedSimpArgs false
open Go.ChangeShapes Go.WideShapes Go.ChangeAt Go.RowKit Go.Joins Go.Deep

theorem info54 : ∃ i, Tryd.prog.info? 54 = some i ∧ i.zero = some (.slice none 0 0) ∧ i.size = 1 ∧ i.bytes = 24 := info_parts (by kernel_rfl)
def chkE (s : ByteArray) : Int := if Lib.validD s.data.toList = false then 21 else if 1024 < Lib.runeCount s then 4 else 0
def firstE : List ByteArray → Int
  | [] => 0
  | s :: l => if chkE s = 0 then firstE l else chkE s
def AllOk (l : List ByteArray) (k : Nat) : Prop := ∀ (i : Nat) s, i < k → l[i]? = some s → chkE s = 0
theorem AllOk.zero (l : List ByteArray) : AllOk l 0 := fun i s h => by omega
theorem AllOk.next {l : List ByteArray} {k : Nat} {s : ByteArray} (h : AllOk l k) (hs : l[k]? = some s) (he : chkE s = 0) : AllOk l (k + 1) := fun i t hi ht => by
  by_cases e : i = k
  · subst e
    rw [hs] at ht
    injection ht with e2
    rw [← e2]
    exact he
  · exact h i t (by omega) ht
theorem first_at : ∀ {l : List ByteArray} {k : Nat} {s : ByteArray}, AllOk l k → l[k]? = some s → chkE s ≠ 0 → firstE l = chkE s
  | [], k, s, _, h, _ => by simp at h
  | t :: l, 0, s, _, h, he => by
    simp at h
    subst h
    rw [firstE, if_neg he]
  | t :: l, k + 1, s, ha, h, he => by
    rw [firstE, if_pos (ha 0 t (by omega) rfl)]
    exact first_at (k := k) (fun i u hi hu => ha (i + 1) u (by omega) (by simpa using hu)) (by simpa using h) he
theorem first_all : ∀ {l : List ByteArray}, AllOk l l.length → firstE l = 0
  | [], _ => rfl
  | t :: l, ha => by
    rw [firstE, if_pos (ha 0 t (by simp) rfl)]
    exact first_all (fun i u hi hu => ha (i + 1) u (by simp; omega) (by simpa using hu))
theorem first_ok : ∀ {l : List ByteArray}, firstE l = 0 → ∀ s ∈ l, chkE s = 0
  | [], _, s, h => by cases h
  | t :: l, he, s, h => by
    rw [firstE] at he
    by_cases e : chkE t = 0
    · rw [if_pos e] at he
      rcases List.mem_cons.1 h with rfl | h
      · exact e
      · exact first_ok he s h
    · rw [if_neg e] at he
      exact absurd he e
theorem chk_ok {s : ByteArray} (h : chkE s = 0) : ∃ x, Tx s x ∧ x.length ≤ 1024 := by
  unfold chkE at h
  cases hv : Lib.validD s.data.toList with
  | false => rw [hv] at h; simp at h
  | true =>
    obtain ⟨x, hx⟩ := tx_of_valid hv
    refine ⟨x, hx, ?_⟩
    rw [hv, hx.count] at h
    simp at h
    omega
theorem chk_tx {s : ByteArray} {x : List CP} (h : Tx s x) : chkE s = if 1024 < x.length then 4 else 0 := by
  unfold chkE
  rw [h.valid, h.count]
  simp
theorem chk_no {s : ByteArray} (h : Lib.validD s.data.toList = false) : chkE s = 21 := by
  unfold chkE
  rw [if_pos h]
/-- texts that were read: a row of rows of runes -/
structure Rd (w : World) (B : Nat) (v : Value) (vs : List Value) (X : List (List CP)) : Prop where
  own : w.ownsRow B 54 1 v X.length vs
  each : ∀ (i : Nat) u x, vs[i]? = some u → X[i]? = some x → w.ownsRow B 21 1 u x.length (rnv x)
theorem Rd.len {w : World} {B : Nat} {v : Value} {vs : List Value} {X : List (List CP)} (h : Rd w B v vs X) : vs.length = X.length := by have := h.own.1; omega
theorem Rd.call {w w' : World} {B : Nat} {v : Value} {vs : List Value} {X : List (List CP)} (h : Rd w B v vs X) (hb : Below w.heap.size w w') : Rd w' B v vs X := ⟨own_call h.own hb, fun i u x h1 h2 => own_call (h.each i u x h1 h2) hb⟩
def TxAll (l : List ByteArray) (X : List (List CP)) : Prop := ∀ (i : Nat) s x, l[i]? = some s → X[i]? = some x → Tx s x ∧ x.length ≤ 1024
def ReadR (l : List ByteArray) (w : World) (r : Ending) (w' : World) : Prop := (firstE l ≠ 0 ∧ r = .returned (.tuple #[.slice none 0 0, .int .i64 (firstE l)]) ∨ firstE l = 0 ∧ ∃ v vs X, r = .returned (.tuple #[v, .int .i64 0]) ∧ Rd w' w.heap.size v vs X ∧ TxAll l X ∧ X.length = l.length) ∧ Below w.heap.size w w'
theorem app_get {α : Type} {l : List α} {a u : α} {i : Nat} (h : (l ++ [a])[i]? = some u) : l[i]? = some u ∨ i = l.length ∧ u = a := by
  by_cases hi : i < l.length
  · rw [List.getElem?_append_left hi] at h
    exact .inl h
  · rw [List.getElem?_append_right (by omega)] at h
    have : i - l.length = 0 := by
      have := (List.getElem?_eq_some_iff.1 h).1
      simp at this
      omega
    rw [this] at h
    simp at h
    exact .inr ⟨by omega, h.symm⟩
theorem TxAll.next {l : List ByteArray} {X : List (List CP)} {s : ByteArray} {x : List CP} (h : TxAll l X) (hs : l[X.length]? = some s) (hx : Tx s x) (hl : x.length ≤ 1024) : TxAll l (X ++ [x]) := fun i t y ht hy => by
  rcases app_get hy with hy | ⟨rfl, rfl⟩
  · exact h i t y ht hy
  · rw [hs] at ht
    injection ht with e
    subst e
    exact ⟨hx, hl⟩
structure RdI (w wr : World) (l : List ByteArray) (v : Value) (k : Nat) (vs : List Value) (X : List (List CP)) : Prop where
  rd : Rd wr w.heap.size v vs X
  tx : TxAll l X
  len : X.length = k
  ok : AllOk l k
  bel : Below w.heap.size w wr
set_option maxRecDepth 100000 in
set_option maxHeartbeats 4000000 in
theorem read_any (B : Nat) (v : Value) (l : List ByteArray) (w : World) (hT : UT w) (h : w.ownsRow B 9 1 v l.length (l.map .string)) (hl : l.length ≤ 1000) (hs : ∀ s ∈ l, s.size ≤ 1099511627776) : Calls Tryd.prog 29 #[v] w fun r w' => ReadR l w r w' := by
  obtain ⟨a, c, rfl, hc, hcm⟩ := own_sl h
  have HU : Hid (∀ W, Below w.heap.size w W → UT W) := hide (fun W h => hT.call h)
  have HO := hide h
  have HSZ := hide hs
  obtain ⟨n, hn⟩ : ∃ z, l.length = z := ⟨_, rfl⟩
  have HN := hide hn
  rw [hn] at HO hc hl ⊢
  have HI0 : Hid (RdI w w l (.slice none 0 0) 0 [] []) := hide ⟨⟨World.ownsRow_nil _ _ _ _, fun i u x h => by simp at h⟩, fun i s x _ h => by simp at h, rfl, AllOk.zero _, Below.refl _ _⟩
  clear hT h hs hn
  go_enter Tryd.func29, Tryd.ntmps29
  go_wp2_with fail
  go_loopw [4, 11] (fun ov kv wr => ∃ (k : Nat) (a2 : Option Addr) (c2 : Nat) (vs : List Value) (X : List (List CP)), k ≤ n ∧ kv = .int .i64 (k : Int) ∧ ov = .slice a2 k c2 ∧ Hid (RdI w wr l (.slice a2 k c2) k vs X)) (fun _ kv _ => ((n : Int) - intOf kv).toNat)
  case atStart => exact ⟨0, none, 0, [], [], by omega, by simp, rfl, HI0⟩
  case round =>
    clear HI0
    obtain ⟨k, a2, c2, vs, X, hk, rfl, rfl, HI⟩ := hrel
    by_cases c1 : (k : Int) < (n : Int)
    · obtain ⟨s, hs⟩ : ∃ s, l[k]? = some s := ⟨_, List.getElem?_eq_getElem (by rw [unhide HN]; omega)⟩
      have hO := own_call (unhide HO) (unhide HI).bel
      obtain ⟨gs, c3, e, hcell, _⟩ := own_rd hO (i := k) (u := .string s) (by simp [hs])
      injection e with e1 e2 e3
      clear e2
      subst e1 e3
      have hsz := unhide HSZ s (List.mem_of_getElem? hs)
      have KT := hide (trunes_any s 1024 wr (unhide HU _ (unhide HI).bel) (by omega))
      have HS := hide hs
      have k0 : (0 : Int) ≤ (k : Int) := by omega
      clear hs hO
      go_wp2_with fail
      refine Calls.mono (unhide KT) ?_
      rintro r w2 ⟨h2, b2⟩
      have hB2 := (unhide HI).bel.trans (b2.mono (unhide HI).bel.size)
      have HB2 := hide hB2
      have HRD := hide ((unhide HI).rd.call b2)
      have hBs := (unhide HI).bel.size
      have HBS := hide hBs
      clear b2 hB2 hBs KT hcell
      rcases h2 with ⟨hv, rfl⟩ | ⟨x, hx, ⟨h1, rfl⟩ | ⟨h1, u, rfl, ho, -⟩⟩
      · have hce := chk_no hv
        have hf : firstE l = 21 := by rw [first_at (unhide HI).ok (unhide HS) (by rw [hce]; decide), hce]
        have HF := hide hf
        clear hv hce hf
        go_wp2_with fail
        go_ret2
        exact ⟨.inl ⟨by rw [unhide HF]; decide, by rw [unhide HF]; rfl⟩, unhide HB2⟩
      · have hce := chk_tx hx
        rw [if_pos (by omega)] at hce
        have hf : firstE l = 4 := by rw [first_at (unhide HI).ok (unhide HS) (by rw [hce]; decide), hce]
        have HF := hide hf
        clear hx hce hf h1
        go_wp2_with fail
        go_ret2
        exact ⟨.inl ⟨by rw [unhide HF]; decide, by rw [unhide HF]; rfl⟩, unhide HB2⟩
      · have hce := chk_tx hx
        rw [if_neg (by omega)] at hce
        have HOK := hide ((unhide HI).ok.next (unhide HS) hce)
        have HTX := hide ((unhide HI).tx.next (by rw [(unhide HI).len]; exact unhide HS) hx (by omega))
        have HXL := hide (unhide HI).len
        obtain ⟨a5, c5, rfl, _, _⟩ := own_sl ho
        have HUO := hide (own_base ho (unhide HBS))
        obtain ⟨q, hq⟩ : ∃ z, x.length = z := ⟨_, rfl⟩
        have HQ := hide hq
        rw [hq] at HUO ⊢
        have hal : Below w2.heap.size w2 (w2.alloc (.cells #[.slice a5 q c5] 54)) := (Below.refl _ _).alloc (Nat.le_refl _) _
        have HB3 := hide ((unhide HB2).trans (hal.mono (unhide HB2).size))
        have HRD3 := hide ((unhide HRD).call hal)
        have HUO3 := hide (own_call (unhide HUO) hal)
        have HS2 : Hid ((w2.alloc (.cells #[.slice a5 q c5] 54)).ownsRow w.heap.size 54 1 (.slice a2 k c2) k vs) := hide (by have h9 := (unhide HRD3).own; rw [unhide HXL] at h9; exact h9)
        have HC2 := hide ((RowAt.new w2 54 [.slice a5 q c5]).cell 0)
        clear hal hx hce ho hq h1 HI HUO HRD HB2
        go_wp2_with (at_builtin; refine unhide ?_)
        obtain ⟨i9, hi9, hz9, hs9, hb9⟩ := info54
        refine hide ?_
        refine wpList_append_own_at _ rfl _ _ 50 rfl w.heap.size 54 i9 (.slice none 0 0) 1 24 Tryd.underlying50 hi9 hz9 hs9 hb9 rfl (by decide) (.slice a2 k c2) k vs rfl (unhide HS2) ⟨w2.heap.size, 0, none⟩ 1 1 [.slice a5 q c5] rfl rfl (fun j u hj => by
          match j, hj with
          | 0, hj =>
            obtain rfl : (.slice a5 q c5 : Value) = u := by simpa using hj
            exact unhide HC2) (fun u hu => by rw [List.mem_singleton] at hu; rw [hu]; rfl) (by unfold maxLen; omega) (by omega) (unhide HB3).size ?_
        intro v' w3 ho hg _ _
        obtain ⟨a3, c3, rfl, _⟩ := own_sl ho
        have o3 := grown_only hg
        have HR3 : Hid (RdI w w3 l (.slice a3 (k + 1) c3) (k + 1) (vs ++ [.slice a5 q c5]) (X ++ [x])) := hide ⟨⟨by rw [List.length_append, unhide HXL]; exact ho, fun i u y hu hy => by
          rcases app_get hu with hu | ⟨hiu, rfl⟩
          · rcases app_get hy with hy | ⟨hiy, rfl⟩
            · have h9 := (unhide HRD3).each i u y hu hy
              exact own_only h9 o3 (fun q hq hp => own_ne h9 (unhide HS2) (by decide) q hq hp)
            · exfalso
              have h8 := (List.getElem?_eq_some_iff.1 hu).1
              have h7 := (unhide HRD3).len
              omega
          · have h7 := (unhide HRD3).len
            rw [h7] at hiu
            rcases app_get hy with hy | ⟨hiy, rfl⟩
            · exfalso
              have h8 := (List.getElem?_eq_some_iff.1 hy).1
              omega
            · have h9 := unhide HUO3
              rw [unhide HQ]
              exact own_only h9 o3 (fun q hq hp => own_ne h9 (unhide HS2) (by decide) q hq hp)⟩, unhide HTX, by rw [List.length_append, unhide HXL]; rfl, unhide HOK, (unhide HB3).trans (o3.below (unhide HB3).size (fun q hq => ((unhide HS2).lt q hq).1))⟩
        clear ho hg o3 HS2 HC2 HRD3 HUO3 HB3 i9 hi9 hz9 hs9 hb9
        go_wp2_with fail
        exact ⟨⟨k + 1, a3, c3, _, _, by omega, by simp, by simp, HR3⟩, by simp [intOf]; omega⟩
    · obtain rfl : n = k := by omega
      have HF := hide (first_all (by rw [unhide HN]; exact (unhide HI).ok))
      go_wp2_with fail
      go_ret2
      exact ⟨.inr ⟨unhide HF, _, _, _, rfl, (unhide HI).rd, (unhide HI).tx, by rw [(unhide HI).len, unhide HN]⟩, (unhide HI).bel⟩
end Go.Proofs.YtonabfpgdgnpnaaDoor

namespace Go.Proofs.YtonabfpgdgnpnaaDoor
set_option linter.unusedVariables false
set_option linter.unusedSimpArgs false
open Go.ChangeShapes Go.WideShapes Go.ChangeAt Go.RowKit Go.Joins Go.Deep

theorem two_get {α : Type} {l : List α} (h : l.length = 2) : ∃ a b, l = [a, b] := by
  match l, h with
  | [a, b], _ => exact ⟨a, b, rfl⟩
theorem three_get {α : Type} {l : List α} (h : l.length = 3) : ∃ a b c, l = [a, b, c] := by
  match l, h with
  | [a, b, c], _ => exact ⟨a, b, c, rfl⟩
theorem LeadR.shape {x y : List CP} {w w' : World} {r : Ending} (h : LeadR x y w r w') : ∃ a l c, r = .returned (.slice a l.length c) ∧ OwnP w' w.heap.size (.slice a l.length c) l ∧ NfG 0 l ∧ atomsL l = At.can (leadA x y) ∧ Below w.heap.size w w' := by
  obtain ⟨v, l, h1, h2, h3, h4, h5⟩ := h
  obtain ⟨a, c, rfl, _, _⟩ := own_sl3 h2
  exact ⟨a, l, c, h1, h2, h3, h4, h5⟩
theorem TabR.shape {x y : List CP} {va vb : Value} {w w' : World} {r : Ending} (h : TabR x y va vb w r w') : ∃ Ba Bb vm M, r = .returned (.agg #[va, vb, vm]) ∧ Tb w' Ba Bb w.heap.size va vb vm x y M ∧ TF x y M ∧ Below w.heap.size w w' := h
def DiffR (a b : ByteArray) (w : World) (r : Ending) (w' : World) : Prop := (firstE [a, b] ≠ 0 ∧ r = .returned (.tuple #[.slice none 0 0, .int .i64 (firstE [a, b])]) ∨ firstE [a, b] = 0 ∧ ∃ x y v l, Tx a x ∧ Tx b y ∧ x.length ≤ 1024 ∧ y.length ≤ 1024 ∧ r = .returned (.tuple #[v, .int .i64 0]) ∧ OwnP w' w.heap.size v l ∧ NfG 0 l ∧ atomsL l = At.can (leadA x y)) ∧ Below w.heap.size w w'
def KeptR (a b : ByteArray) (w : World) (r : Ending) (w' : World) : Prop := (firstE [a, b] ≠ 0 ∧ r = .returned (.tuple #[.int .i64 0, .int .i64 (firstE [a, b])]) ∨ firstE [a, b] = 0 ∧ ∃ x y, Tx a x ∧ Tx b y ∧ x.length ≤ 1024 ∧ y.length ≤ 1024 ∧ r = .returned (.tuple #[.int .i64 (lcs x y : Int), .int .i64 0])) ∧ Below w.heap.size w w'
theorem first_i64 (l : List ByteArray) : firstE l = 0 ∨ firstE l = 4 ∨ firstE l = 21 := by
  induction l with
  | nil => exact .inl rfl
  | cons s l ih =>
    rw [firstE]
    by_cases h : chkE s = 0
    · rw [if_pos h]
      exact ih
    · rw [if_neg h]
      unfold chkE at h ⊢
      split
      · simp
      · split
        · simp
        · rename_i h1 h2
          rw [if_neg h1, if_neg h2] at h
          exact absurd rfl h
set_option maxRecDepth 100000 in
set_option maxHeartbeats 4000000 in
theorem diff_any (a b : ByteArray) (w : World) (hT : UT w) (hsa : a.size ≤ 1099511627776) (hsb : b.size ≤ 1099511627776) : Calls Tryd.prog 13 #[.string a, .string b] w fun r w' => DiffR a b w r w' := by
  have HU : Hid (∀ W, Below w.heap.size w W → UT W) := hide (fun W h => hT.call h)
  have bP : Below w.heap.size w (w.alloc (.cells #[.string a, .string b] 9)) := (Below.refl _ _).alloc (Nat.le_refl _) _
  have KR := hide (read_any w.heap.size (.slice (some ⟨w.heap.size, 0, none⟩) 2 2) [a, b] (w.alloc (.cells #[.string a, .string b] 9)) (hT.call bP) (own_row (RowAt.new w 9 [.string a, .string b]) (Nat.le_refl _) (by show 2 ≤ maxLen; unfold maxLen; omega)) (by simp) (by simp only [List.mem_cons, List.not_mem_nil, or_false]; rintro s (rfl | rfl) <;> assumption))
  have B1 := hide bP
  obtain ⟨w1, hw1⟩ : ∃ z, w.alloc (.cells #[.string a, .string b] 9) = z := ⟨_, rfl⟩
  have HW1 := hide hw1
  rw [hw1] at KR B1
  clear hT bP hw1
  go_enter Tryd.func13, Tryd.ntmps13
  go_wp2_with fail
  try rw [unhide HW1]
  clear HW1
  refine Calls.mono (unhide KR) ?_
  rintro r w2 ⟨h2, b2⟩
  have B2 := hide ((unhide B1).trans (b2.mono (unhide B1).size))
  have hBs := (unhide B1).size
  clear b2 KR
  rcases h2 with ⟨hf, rfl⟩ | ⟨hf, v, vs, X, rfl, hrd, htx, hxl⟩
  · obtain ⟨e, he⟩ : ∃ z, firstE [a, b] = z := ⟨_, rfl⟩
    have HE := hide he
    have he0 : (e != 0) = true := by rw [← he]; simp [hf]
    have HF := hide hf
    rw [he]
    clear hf he
    go_wp2_with fail
    go_ret2
    exact ⟨.inl ⟨unhide HF, by rw [unhide HE]; rfl⟩, unhide B2⟩
  · obtain ⟨x, y, rfl⟩ := two_get hxl
    have hvl := hrd.len
    obtain ⟨u0, u1, rfl⟩ := two_get hvl
    obtain ⟨ht0, hl0⟩ := htx 0 _ _ rfl rfl
    have ho0 := hrd.each 0 _ _ rfl rfl
    obtain ⟨a0, c0, rfl, _, _⟩ := own_sl ho0
    obtain ⟨ht1, hl1⟩ := htx 1 _ _ rfl rfl
    have ho1 := hrd.each 1 _ _ rfl rfl
    obtain ⟨a1, c1, rfl, _, _⟩ := own_sl ho1
    obtain ⟨gl, cl, rfl, hc0, -, hlc, hlm⟩ := own_rd hrd.own (i := 0) rfl
    have hc1 : w2.cell? ⟨gl, 1, none⟩ = some (.slice a1 y.length c1) := row_cell (n := 2) (by exact hrd.own) rfl
    have KL := hide (fun W (hb : Below w2.heap.size w2 W) => lead_any (unhide HU W ((unhide B2).trans (hb.mono (unhide B2).size))) (own_call ho0 hb) (own_call ho1 hb) ht0.cps ht1.cps hl0 hl1)
    have HT := hide (And.intro hf (And.intro ht0 (And.intro ht1 (And.intro hl0 hl1))))
    have HS : Hid (∀ W, Below w2.heap.size w2 W → W.cell? ⟨gl, 0, none⟩ = some (.slice a0 x.length c0) ∧ W.cell? ⟨gl, 1, none⟩ = some (.slice a1 y.length c1)) := hide (fun W hW => ⟨kept hW hc0, kept hW hc1⟩)
    have k0 : Below w2.heap.size w2 w2.drew := (Below.refl _ _).drew
    obtain ⟨n, hn⟩ : ∃ z, x.length = z := ⟨_, rfl⟩
    obtain ⟨m, hm⟩ : ∃ z, y.length = z := ⟨_, rfl⟩
    rw [hn, hm] at KL HS
    rw [show ([x, y] : List (List CP)).length = 2 from rfl] at *
    clear hf hrd htx hxl hvl ht0 ht1 hl0 hl1 ho0 ho1 hc0 hc1 hn hm
    go_wp2_with fail
    go_region_held3 (fun W => W.cell? ⟨gl, 0, none⟩ = some (.slice a0 n c0) ∧ W.cell? ⟨gl, 1, none⟩ = some (.slice a1 m c1))
      (first | exact unhide HS _ k0 | exact unhide HS _ k1)
      (first | (go_at_call 30; with_reducible refine Calls.mono (unhide KL _ k0) ?_; rintro e w3 h3; obtain ⟨a3, l3, c3, rfl, o3, nf3, at3, b3⟩ := LeadR.shape h3; have k1 : Below w2.heap.size w2 w3 := k0.trans (b3.mono k0.size)))
    have HO := hide (own_base o3 (show w.heap.size ≤ w2.drew.heap.size from (unhide B2).size))
    have B3 := hide ((unhide B2).trans (k1.mono (unhide B2).size))
    have HA := hide (And.intro nf3 at3)
    clear k0 k1 b3 o3 nf3 at3 HS KL
    go_wp2_with fail
    go_ret2
    exact ⟨.inr ⟨(unhide HT).1, x, y, _, _, (unhide HT).2.1, (unhide HT).2.2.1, (unhide HT).2.2.2.1, (unhide HT).2.2.2.2, rfl, unhide HO, (unhide HA).1, (unhide HA).2⟩, unhide B3⟩
set_option maxRecDepth 100000 in
set_option maxHeartbeats 4000000 in
theorem kept2_any (a b : ByteArray) (w : World) (hT : UT w) (hsa : a.size ≤ 1099511627776) (hsb : b.size ≤ 1099511627776) : Calls Tryd.prog 16 #[.string a, .string b] w fun r w' => KeptR a b w r w' := by
  have HU : Hid (∀ W, Below w.heap.size w W → UT W) := hide (fun W h => hT.call h)
  have bP : Below w.heap.size w (w.alloc (.cells #[.string a, .string b] 9)) := (Below.refl _ _).alloc (Nat.le_refl _) _
  have KR := hide (read_any w.heap.size (.slice (some ⟨w.heap.size, 0, none⟩) 2 2) [a, b] (w.alloc (.cells #[.string a, .string b] 9)) (hT.call bP) (own_row (RowAt.new w 9 [.string a, .string b]) (Nat.le_refl _) (by show 2 ≤ maxLen; unfold maxLen; omega)) (by simp) (by simp only [List.mem_cons, List.not_mem_nil, or_false]; rintro s (rfl | rfl) <;> assumption))
  have B1 := hide bP
  obtain ⟨w1, hw1⟩ : ∃ z, w.alloc (.cells #[.string a, .string b] 9) = z := ⟨_, rfl⟩
  have HW1 := hide hw1
  rw [hw1] at KR B1
  clear hT bP hw1
  go_enter Tryd.func16, Tryd.ntmps16
  go_wp2_with fail
  try rw [unhide HW1]
  clear HW1
  refine Calls.mono (unhide KR) ?_
  rintro r w2 ⟨h2, b2⟩
  have B2 := hide ((unhide B1).trans (b2.mono (unhide B1).size))
  have hBs := (unhide B1).size
  clear b2 KR
  rcases h2 with ⟨hf, rfl⟩ | ⟨hf, v, vs, X, rfl, hrd, htx, hxl⟩
  · obtain ⟨e, he⟩ : ∃ z, firstE [a, b] = z := ⟨_, rfl⟩
    have HE := hide he
    have he0 : (e != 0) = true := by rw [← he]; simp [hf]
    have HF := hide hf
    rw [he]
    clear hf he
    go_wp2_with fail
    go_ret2
    exact ⟨.inl ⟨unhide HF, by rw [unhide HE]; rfl⟩, unhide B2⟩
  · obtain ⟨x, y, rfl⟩ := two_get hxl
    have hvl := hrd.len
    obtain ⟨u0, u1, rfl⟩ := two_get hvl
    obtain ⟨ht0, hl0⟩ := htx 0 _ _ rfl rfl
    have ho0 := hrd.each 0 _ _ rfl rfl
    obtain ⟨a0, c0, rfl, _, _⟩ := own_sl ho0
    obtain ⟨ht1, hl1⟩ := htx 1 _ _ rfl rfl
    have ho1 := hrd.each 1 _ _ rfl rfl
    obtain ⟨a1, c1, rfl, _, _⟩ := own_sl ho1
    obtain ⟨gl, cl, rfl, hc0, -, hlc, hlm⟩ := own_rd hrd.own (i := 0) rfl
    have hc1 : w2.cell? ⟨gl, 1, none⟩ = some (.slice a1 y.length c1) := row_cell (n := 2) (by exact hrd.own) rfl
    have KL := hide (fun W (hb : Below w2.heap.size w2 W) => table_any (own_call ho0 hb) (own_call ho1 hb) ht0.cps ht1.cps hl0 hl1)
    have HT := hide (And.intro hf (And.intro ht0 (And.intro ht1 (And.intro hl0 hl1))))
    have HS : Hid (∀ W, Below w2.heap.size w2 W → W.cell? ⟨gl, 0, none⟩ = some (.slice a0 x.length c0) ∧ W.cell? ⟨gl, 1, none⟩ = some (.slice a1 y.length c1)) := hide (fun W hW => ⟨kept hW hc0, kept hW hc1⟩)
    have k0 : Below w2.heap.size w2 w2.drew := (Below.refl _ _).drew
    have hsm := lcs_small (y := y) hl0 0 0
    rw [List.drop_zero, List.drop_zero] at hsm
    have HLM := hide hsm
    have KK : Hid (∀ W vm M Ba Bb Bm, Tb W Ba Bb Bm (.slice a0 x.length c0) (.slice a1 y.length c1) vm x y M → TF x y M → Calls Tryd.prog 36 #[.agg #[.slice a0 x.length c0, .slice a1 y.length c1, vm], .int .i64 0, .int .i64 0] W fun r w' => r = .returned (.int .i64 (lcs x y : Int)) ∧ Below W.heap.size W w') := hide (fun W vm M Ba Bb Bm ht hF => by
      have h9 := kept_any ht (i := 0) (j := 0) (by omega) (by omega) (hF 0 0 (by omega) (by omega)) (by rw [List.drop_zero, List.drop_zero]; omega)
      rw [List.drop_zero, List.drop_zero] at h9
      exact h9)
    obtain ⟨n, hn⟩ : ∃ z, x.length = z := ⟨_, rfl⟩
    obtain ⟨m, hm⟩ : ∃ z, y.length = z := ⟨_, rfl⟩
    rw [hn, hm] at KL HS KK
    rw [show ([x, y] : List (List CP)).length = 2 from rfl] at *
    obtain ⟨k, hk⟩ : ∃ z, lcs x y = z := ⟨_, rfl⟩
    have HK := hide hk
    rw [hk] at KK
    clear hf hrd htx hxl hvl ht0 ht1 hl0 hl1 ho0 ho1 hc0 hc1 hn hm hsm hk
    go_wp2_with fail
    go_region_held3 (fun W => W.cell? ⟨gl, 0, none⟩ = some (.slice a0 n c0) ∧ W.cell? ⟨gl, 1, none⟩ = some (.slice a1 m c1))
      (first | exact unhide HS _ k0 | exact unhide HS _ k2 | exact unhide HS _ k1)
      (first | (go_at_call 35; with_reducible refine Calls.mono (unhide KL _ k0) ?_; rintro e w3 h3; obtain ⟨Ba3, Bb3, vm3, M3, rfl, t3, F3, b3⟩ := TabR.shape h3; have k1 : Below w2.heap.size w2 w3 := k0.trans (b3.mono k0.size)) | (go_at_call 36; with_reducible refine Calls.mono (unhide KK _ _ _ _ _ _ t3 F3) ?_; rintro e w4 ⟨rfl, b4⟩; have k2 : Below w2.heap.size w2 w4 := k1.trans (b4.mono k1.size)))
    have B3 := hide ((unhide B2).trans (k2.mono (unhide B2).size))
    clear k0 k1 k2 b3 b4 t3 F3 HS KL KK
    go_wp2_with fail
    go_ret2
    exact ⟨.inr ⟨(unhide HT).1, x, y, (unhide HT).2.1, (unhide HT).2.2.1, (unhide HT).2.2.2.1, (unhide HT).2.2.2.2, by rw [unhide HK]; rfl⟩, unhide B3⟩
end Go.Proofs.YtonabfpgdgnpnaaDoor

namespace Go.Proofs.YtonabfpgdgnpnaaDoor
set_option linter.unusedVariables false
set_option linter.unusedSimpArgs false
open Go.ChangeShapes Go.WideShapes Go.ChangeAt Go.RowKit Go.Joins Go.Deep

theorem nf_few : ∀ {l : List Pt} {a : Int}, NfG a l → l.length ≤ (atomsL l).length
  | [], _, _ => by simp
  | p :: l, a, h => by
    have hg := h.1
    have h1 := hg.len.2
    have h2 := hg.1
    have ih := nf_few h.2.2.2
    rw [atomsL, List.length_append, List.length_cons, h1]
    omega
theorem can_len2 (x : List At) : (At.can x).length = x.length := by
  have h : ∀ (x : List At) (ps : List (List UInt8)) (n : Nat), (At.canG ps n x).length = ps.length + n + x.length := by
    intro x
    induction x with
    | nil => intro ps n; simp [At.canG]
    | cons s x ih =>
      intro ps n
      cases s with
      | k => simp [At.canG, ih]; omega
      | d => simp [At.canG, ih]; omega
      | p c => simp [At.canG, ih]; omega
  unfold At.can
  rw [h]
  simp
theorem lead_ed {l : List Pt} {x y : List CP} (nf : NfG 0 l) (e : atomsL l = At.can (leadA x y)) (hx : x.length ≤ 1024) (hy : y.length ≤ 1024) : IsEd l x.length y.length ∧ l.length ≤ 2048 := by
  have li := lead_is x y
  refine ⟨⟨nf, ?_, ?_, by omega, by omega⟩, ?_⟩
  · rw [e, ← At.fromN_sw (At.can_sw _), li.frm]
  · rw [e, ← At.toN_sw (At.can_sw _), li.to_]
  · have h1 := nf_few nf
    have h2 := lead_len _ x y (Nat.le_refl _)
    rw [e, can_len2] at h1
    omega
theorem own_ed {w : World} {B : Nat} {a : Option Addr} {l : List Pt} {c n m : Nat} (h : OwnP w B (.slice a l.length c) l) (he : IsEd l n m) (hl : l.length ≤ 4398046511104) : Edit w a l c := by
  obtain ⟨a2, c2, e, h2⟩ := h.edit (ed_txt he) hl
  injection e with e1 _ e3
  subst e1 e3
  exact h2
def MTr (x y z : List CP) (W : World) (r : Ending) (w' : World) : Prop := ∃ v1 a5 c2 c5, r = .returned (.tuple #[v1, .slice a5 c2.length c5, .int .i64 0]) ∧ OwnP w' W.heap.size (.slice a5 c2.length c5) c2 ∧ IsEd c2 y.length (At.toN (atomsL c2)) ∧ c2.length ≤ 100000 ∧ atomsL c2 = At.can (At.two (At.can (leadA x y)) (At.can (leadA x z))) ∧ Below W.heap.size W w'
theorem MTr.shape {x y z : List CP} {W w' : World} {r : Ending} (h : MTr x y z W r w') : ∃ v1 a5 c2 c5, r = .returned (.tuple #[v1, .slice a5 c2.length c5, .int .i64 0]) ∧ OwnP w' W.heap.size (.slice a5 c2.length c5) c2 ∧ IsEd c2 y.length (At.toN (atomsL c2)) ∧ c2.length ≤ 100000 ∧ atomsL c2 = At.can (At.two (At.can (leadA x y)) (At.can (leadA x z))) ∧ Below W.heap.size W w' := h
theorem merge_tra {W : World} {B3 B4 : Nat} {a3 a4 : Option Addr} {l3 l4 : List Pt} {c3 c4 : Nat} {x y z : List CP} (hU : UT W) (o3 : OwnP W B3 (.slice a3 l3.length c3) l3) (n3 : NfG 0 l3) (e3 : atomsL l3 = At.can (leadA x y)) (o4 : OwnP W B4 (.slice a4 l4.length c4) l4) (n4 : NfG 0 l4) (e4 : atomsL l4 = At.can (leadA x z)) (hx : x.length ≤ 1024) (hy : y.length ≤ 1024) (hz : z.length ≤ 1024) :
    Calls Tryd.prog 43 #[.slice a3 l3.length c3, .slice a4 l4.length c4] W fun r w' => MTr x y z W r w' := by
  obtain ⟨d3, k3⟩ := lead_ed n3 e3 hx hy
  obtain ⟨d4, k4⟩ := lead_ed n4 e4 hx hz
  refine Calls.mono (transform_at hU (own_ed o3 d3 (by omega)) (own_ed o4 d4 (by omega)) rfl rfl (by omega) (Below.refl _ _)) ?_
  rintro r w' ⟨h, hb⟩
  obtain ⟨c1, c2, g1, g2, f1, f2, m1, m2, s1, s2, s3, h⟩ := tra_ok h d3 d4
  have hp := (At.sizes (atomsL l3) (atomsL l4) (by rw [d3.2.1, d4.2.1]))
  have hto : At.toN (atomsL c1) ≤ 4096 := by
    have q1 := from_to (At.one (atomsL l3) (atomsL l4))
    have q2 := from_to (leadA x y)
    have li := lead_is x y
    rw [hp.1, hp.2.2.2.1, e3, ← At.putsN_sw (At.can_sw _), d4.2.2.1] at q1
    have q4 := li.puts
    rw [f1, ← At.toN_sw (At.can_sw _), e3]
    omega
  rcases h with ⟨h, _⟩ | ⟨_, h2, v1, v2, rfl, _, o2⟩
  · omega
  · obtain ⟨a5, c5, rfl, _, _⟩ := own_sl3 o2
    refine ⟨v1, a5, c2, c5, rfl, o2, ?_, by omega, by rw [f2, e3, e4], hb⟩
    rw [← s3]
    exact h2
def MergeR (b a c : ByteArray) (w : World) (r : Ending) (w' : World) : Prop := (firstE [b, a, c] ≠ 0 ∧ r = .returned (.tuple #[.string ⟨#[]⟩, .int .i64 (firstE [b, a, c])]) ∨ firstE [b, a, c] = 0 ∧ ∃ x y z S, Tx b x ∧ Tx a y ∧ Tx c z ∧ x.length ≤ 1024 ∧ y.length ≤ 1024 ∧ z.length ≤ 1024 ∧ r = .returned (.tuple #[.string S, .int .i64 0]) ∧ Tx S (At.app (At.can (At.two (At.can (leadA x y)) (At.can (leadA x z)))) y)) ∧ Below w.heap.size w w'
set_option maxRecDepth 100000 in
set_option maxHeartbeats 4000000 in
theorem merge_any (a b c : ByteArray) (w : World) (hT : UT w) (hsa : a.size ≤ 1099511627776) (hsb : b.size ≤ 1099511627776) (hsc : c.size ≤ 1099511627776) : Calls Tryd.prog 22 #[.string a, .string b, .string c] w fun r w' => MergeR a b c w r w' := by
  have HU : Hid (∀ W, Below w.heap.size w W → UT W) := hide (fun W h => hT.call h)
  have bP : Below w.heap.size w (w.alloc (.cells #[.string a, .string b, .string c] 9)) := (Below.refl _ _).alloc (Nat.le_refl _) _
  have KR := hide (read_any w.heap.size (.slice (some ⟨w.heap.size, 0, none⟩) 3 3) [a, b, c] (w.alloc (.cells #[.string a, .string b, .string c] 9)) (hT.call bP) (own_row (RowAt.new w 9 [.string a, .string b, .string c]) (Nat.le_refl _) (by show 3 ≤ maxLen; unfold maxLen; omega)) (by simp) (by simp only [List.mem_cons, List.not_mem_nil, or_false]; rintro s (rfl | rfl | rfl) <;> assumption))
  have B1 := hide bP
  obtain ⟨w1, hw1⟩ : ∃ z, w.alloc (.cells #[.string a, .string b, .string c] 9) = z := ⟨_, rfl⟩
  have HW1 := hide hw1
  rw [hw1] at KR B1
  clear hT bP hw1
  go_enter Tryd.func22, Tryd.ntmps22
  go_wp2_with fail
  try rw [unhide HW1]
  clear HW1
  refine Calls.mono (unhide KR) ?_
  rintro r w2 ⟨h2, b2⟩
  have B2 := hide ((unhide B1).trans (b2.mono (unhide B1).size))
  have hBs := (unhide B1).size
  clear b2 KR
  rcases h2 with ⟨hf, rfl⟩ | ⟨hf, v, vs, X, rfl, hrd, htx, hxl⟩
  · obtain ⟨e, he⟩ : ∃ z, firstE [a, b, c] = z := ⟨_, rfl⟩
    have HE := hide he
    have he0 : (e != 0) = true := by rw [← he]; simp [hf]
    have HF := hide hf
    rw [he]
    clear hf he
    go_wp2_with fail
    go_ret2
    exact ⟨.inl ⟨unhide HF, by rw [unhide HE]; rfl⟩, unhide B2⟩
  · obtain ⟨x, y, z, rfl⟩ := three_get hxl
    have hvl := hrd.len
    obtain ⟨u0, u1, u2, rfl⟩ := three_get hvl
    obtain ⟨ht0, hl0⟩ := htx 0 _ _ rfl rfl
    have ho0 := hrd.each 0 _ _ rfl rfl
    obtain ⟨a0, c0, rfl, _, _⟩ := own_sl ho0
    obtain ⟨ht1, hl1⟩ := htx 1 _ _ rfl rfl
    have ho1 := hrd.each 1 _ _ rfl rfl
    obtain ⟨a1, c1, rfl, _, _⟩ := own_sl ho1
    obtain ⟨ht2, hl2⟩ := htx 2 _ _ rfl rfl
    have ho2 := hrd.each 2 _ _ rfl rfl
    obtain ⟨a2, c2, rfl, _, _⟩ := own_sl ho2
    obtain ⟨gl, cl, rfl, hc0, -, hlc, hlm⟩ := own_rd hrd.own (i := 0) rfl
    have hc1 : w2.cell? ⟨gl, 1, none⟩ = some (.slice a1 y.length c1) := row_cell (n := 3) (by exact hrd.own) rfl
    have hc2 : w2.cell? ⟨gl, 2, none⟩ = some (.slice a2 z.length c2) := row_cell (n := 3) (by exact hrd.own) rfl
    have KL := hide (fun W (hb : Below w2.heap.size w2 W) => lead_any (unhide HU W ((unhide B2).trans (hb.mono (unhide B2).size))) (own_call ho0 hb) (own_call ho1 hb) ht0.cps ht1.cps hl0 hl1)
    have KM := hide (fun W (hb : Below w2.heap.size w2 W) => lead_any (unhide HU W ((unhide B2).trans (hb.mono (unhide B2).size))) (own_call ho0 hb) (own_call ho2 hb) ht0.cps ht2.cps hl0 hl2)
    have HT := hide (And.intro hf (And.intro ht0 (And.intro ht1 (And.intro ht2 (And.intro hl0 (And.intro hl1 hl2))))))
    have HS : Hid (∀ W, Below w2.heap.size w2 W → W.cell? ⟨gl, 0, none⟩ = some (.slice a0 x.length c0) ∧ W.cell? ⟨gl, 1, none⟩ = some (.slice a1 y.length c1) ∧ W.cell? ⟨gl, 2, none⟩ = some (.slice a2 z.length c2)) := hide (fun W hW => ⟨kept hW hc0, kept hW hc1, kept hW hc2⟩)
    have k0 : Below w2.heap.size w2 w2.drew := (Below.refl _ _).drew
    obtain ⟨n, hn⟩ : ∃ z, x.length = z := ⟨_, rfl⟩
    obtain ⟨m, hm⟩ : ∃ z, y.length = z := ⟨_, rfl⟩
    obtain ⟨q, hq⟩ : ∃ u, z.length = u := ⟨_, rfl⟩
    rw [hn, hm] at KL
    rw [hn, hq] at KM
    rw [hn, hm, hq] at HS
    rw [show ([x, y, z] : List (List CP)).length = 3 from rfl] at *
    clear hf hrd htx hxl hvl ht0 ht1 ht2 hl0 hl1 hl2 ho0 ho1 ho2 hc0 hc1 hc2 hn hm hq
    go_wp2_with fail
    go_region_held3 (fun W => W.cell? ⟨gl, 0, none⟩ = some (.slice a0 n c0) ∧ W.cell? ⟨gl, 1, none⟩ = some (.slice a1 m c1) ∧ W.cell? ⟨gl, 2, none⟩ = some (.slice a2 q c2))
      (first | exact unhide HS _ k0 | exact unhide HS _ k3 | exact unhide HS _ k2 | exact unhide HS _ k1)
      (first | ((fail_if_success (have := k1)); go_at_call 30; with_reducible refine Calls.mono (unhide KL _ k0) ?_; rintro e w3 h3; obtain ⟨a3, l3, c3, rfl, o3, nf3, at3, b3⟩ := LeadR.shape h3; have k1 : Below w2.heap.size w2 w3 := k0.trans (b3.mono k0.size)) | (go_at_call 30; with_reducible refine Calls.mono (unhide KM _ k1) ?_; rintro e w4 h4; obtain ⟨a4, l4, c4, rfl, o4, nf4, at4, b4⟩ := LeadR.shape h4; have k2 : Below w2.heap.size w2 w4 := k1.trans (b4.mono k1.size)) | (go_at_call 43; with_reducible refine Calls.mono (merge_tra (unhide HU _ ((unhide B2).trans (k2.mono (unhide B2).size))) (OwnP.call o3 b4) nf3 at3 o4 nf4 at4 (unhide HT).2.2.2.2.1 (unhide HT).2.2.2.2.2.1 (unhide HT).2.2.2.2.2.2) ?_; rintro e w5 h5; obtain ⟨v1, a5, l5, c5, rfl, o5, ed5, len5, at5, b5⟩ := MTr.shape h5; have k3 : Below w2.heap.size w2 w5 := k2.trans (b5.mono k2.size)))
    have B5 := hide ((unhide B2).trans (k3.mono (unhide B2).size))
    obtain ⟨ap5, cap5, e5, hp5, hl5, hm5⟩ := o5.slice
    injection e5 with e51 e52 e53
    clear e52
    subst e51 e53
    have KA := hide (apply_ed (c := c5) (unhide HU _ (unhide B5)) hp5 (by omega) (unhide HT).2.2.1 ed5)
    have HA5 := hide at5
    clear k0 k1 k2 k3 b3 b4 b5 o3 o4 o5 nf3 nf4 at3 at4 at5 ed5 hp5 hl5 hm5 len5 HS KL KM
    go_wp2_with fail
    refine Calls.mono (unhide KA) ?_
    rintro r w6 ⟨S, rfl, hS, b6⟩
    have B6 := hide ((unhide B5).trans (b6.mono (unhide B5).size))
    rw [unhide HA5] at hS
    have HSS := hide hS
    clear b6 hS KA
    go_wp2_with fail
    go_ret2
    exact ⟨.inr ⟨(unhide HT).1, x, y, z, S, (unhide HT).2.1, (unhide HT).2.2.1, (unhide HT).2.2.2.1, (unhide HT).2.2.2.2.1, (unhide HT).2.2.2.2.2.1, (unhide HT).2.2.2.2.2.2, rfl, unhide HSS⟩, unhide B6⟩
end Go.Proofs.YtonabfpgdgnpnaaDoor

namespace Go.Proofs.YtonabfpgdgnpnaaDoor
set_option linter.unusedVariables false
set_option linter.unusedSimpArgs false
open Go.ChangeShapes Go.WideShapes Go.ChangeAt Go.RowKit Go.Joins Go.Deep

def lcsF : Nat → List CP → List CP → Nat
  | 0, _, _ => 0
  | _ + 1, [], _ => 0
  | _ + 1, _ :: _, [] => 0
  | n + 1, c :: x, d :: y => if c = d then lcsF n x y + 1 else max (lcsF n x (d :: y)) (lcsF n (c :: x) y)
theorem lcsF_eq : ∀ (n : Nat) (x y : List CP), x.length + y.length ≤ n → lcsF n x y = lcs x y
  | 0, [], y, h => by rw [lcs_nil_left]; rfl
  | 0, _ :: _, _, h => by simp at h
  | n + 1, [], y, h => by rw [lcs_nil_left]; rfl
  | n + 1, _ :: _, [], h => by rw [lcs_nil_right]; rfl
  | n + 1, c :: x, d :: y, h => by
    rw [List.length_cons, List.length_cons] at h
    by_cases e : c = d
    · subst e
      rw [lcs_eq, lcsF, if_pos rfl, lcsF_eq n x y (by omega)]
    · rw [lcs_ne e, lcsF, if_neg e, lcsF_eq n x (d :: y) (by rw [List.length_cons]; omega), lcsF_eq n (c :: x) y (by rw [List.length_cons]; omega)]
def leadF : Nat → List CP → List CP → List At
  | 0, _, _ => []
  | _ + 1, [], [] => []
  | n + 1, [], d :: y => .p d :: leadF n [] y
  | n + 1, _ :: x, [] => .d :: leadF n x []
  | n + 1, c :: x, d :: y => if c = d then .k :: leadF n x y else if lcsF n (c :: x) y ≤ lcsF n x (d :: y) then .d :: leadF n x (d :: y) else .p d :: leadF n (c :: x) y
theorem leadF_eq : ∀ (n : Nat) (x y : List CP), x.length + y.length ≤ n → leadF n x y = leadA x y
  | 0, [], [], _ => by rw [leadA]; rfl
  | 0, [], _ :: _, h => by simp at h
  | 0, _ :: _, _, h => by simp at h
  | n + 1, [], [], _ => by rw [leadA]; rfl
  | n + 1, [], d :: y, h => by rw [leadA, leadF, leadF_eq n [] y (by rw [List.length_cons] at h; omega)]
  | n + 1, c :: x, [], h => by rw [leadA, leadF, leadF_eq n x [] (by rw [List.length_cons] at h; omega)]
  | n + 1, c :: x, d :: y, h => by
    rw [List.length_cons, List.length_cons] at h
    rw [leadA, leadF, leadF_eq n x y (by omega), leadF_eq n x (d :: y) (by rw [List.length_cons]; omega), leadF_eq n (c :: x) y (by rw [List.length_cons]; omega), lcsF_eq n x (d :: y) (by rw [List.length_cons]; omega), lcsF_eq n (c :: x) y (by rw [List.length_cons]; omega)]
theorem aw_lead : leadA [[97], [98], [99], [100]] [[97], [120], [99], [121]] = [.k, .d, .p [120], .k, .d, .p [121]] ∨ leadA [[97], [98], [99], [100]] [[97], [120], [99], [121]] = [.k, .p [120], .d, .k, .p [121], .d] := by
  rw [← leadF_eq 8 _ _ (by decide)]
  exact .inl (by rfl)
theorem aw_l1 : leadA [[111], [110], [101], [32], [116], [119], [111]] [[111], [110], [101], [32], [50], [32], [116], [119], [111]] = [.k, .k, .k, .k, .p [50], .p [32], .k, .k, .k] := by
  rw [← leadF_eq 16 _ _ (by decide)]
  rfl
theorem aw_l2 : leadA [[111], [110], [101], [32], [116], [119], [111]] [[49], [32], [111], [110], [101], [32], [116], [119], [111]] = [.p [49], .p [32], .k, .k, .k, .k, .k, .k, .k] := by
  rw [← leadF_eq 16 _ _ (by decide)]
  kernel_rfl
theorem aw_mg : At.app (At.can (At.two (At.can (leadA [[111], [110], [101], [32], [116], [119], [111]] [[111], [110], [101], [32], [50], [32], [116], [119], [111]])) (At.can (leadA [[111], [110], [101], [32], [116], [119], [111]] [[49], [32], [111], [110], [101], [32], [116], [119], [111]])))) [[111], [110], [101], [32], [50], [32], [116], [119], [111]] = [[49], [32], [111], [110], [101], [32], [50], [32], [116], [119], [111]] := by
  rw [aw_l1, aw_l2]
  simp [At.can, At.canG, At.two, At.app]
def awL : List Pt := [⟨1, 1, ⟨#[]⟩⟩, ⟨2, 1, ⟨#[120]⟩⟩, ⟨3, 1, ⟨#[]⟩⟩, ⟨1, 1, ⟨#[]⟩⟩, ⟨2, 1, ⟨#[121]⟩⟩, ⟨3, 1, ⟨#[]⟩⟩]
theorem aw_good (c : UInt8) (h : c.toNat < 128) : Good ⟨2, 1, ⟨#[c]⟩⟩ ∧ atoms ⟨2, 1, ⟨#[c]⟩⟩ = [.p [c]] := by
  have hx : Tx ⟨#[c]⟩ [[c]] := tx_ascii [c] (by intro b hb; rw [List.mem_singleton] at hb; rw [hb]; exact h)
  exact ⟨⟨by show (1 : Int) ≤ 1; omega, .inr (.inr ⟨rfl, _, hx, rfl⟩)⟩, atoms_put hx⟩
theorem aw_nf : NfG 0 awL ∧ atomsL awL = At.can (leadA [[97], [98], [99], [100]] [[97], [120], [99], [121]]) := by
  have g1 : Good ⟨1, 1, ⟨#[]⟩⟩ := good_keep (by decide)
  have g3 : Good ⟨3, 1, ⟨#[]⟩⟩ := good_drop (by decide)
  have gx := aw_good 120 (by decide)
  have gy := aw_good 121 (by decide)
  refine ⟨⟨g1, by decide, by decide, gx.1, by decide, by decide, g3, by decide, by decide, g1, by decide, by decide, gy.1, by decide, by decide, g3, by decide, by decide, trivial⟩, ?_⟩
  have e : atomsL awL = [.k, .p [120], .d, .k, .p [121], .d] := by
    unfold awL
    simp only [atomsL]
    rw [gx.2, gy.2, atoms_keep, atoms_drop]
    rfl
  rw [e]
  rcases aw_lead with h | h <;> rw [h] <;> simp [At.can, At.canG]
set_option maxRecDepth 100000 in
set_option maxHeartbeats 4000000 in
theorem awake_any (w : World) (hT : UT w) : Calls Tryd.prog 12 #[] w fun r w' => r = .returned (.bool true) ∧ Below w.heap.size w w' := by
  have HU : Hid (∀ W, Below w.heap.size w W → UT W) := hide (fun W h => hT.call h)
  have KD := hide (diff_any ⟨#[97, 98, 99, 100]⟩ ⟨#[97, 120, 99, 121]⟩ w hT (by decide) (by decide))
  clear hT
  go_enter Tryd.func12, Tryd.ntmps12
  go_wp2_with fail
  refine Calls.mono (unhide KD) ?_
  rintro r w1 ⟨h1, b1⟩
  have B1 := hide b1
  clear b1 KD
  have hf0 : firstE [⟨#[97, 98, 99, 100]⟩, ⟨#[97, 120, 99, 121]⟩] = 0 := by
    have e1 := chk_tx (show Tx ⟨#[97, 98, 99, 100]⟩ [[97], [98], [99], [100]] from tx_ascii [97, 98, 99, 100] (by decide))
    have e2 := chk_tx (show Tx ⟨#[97, 120, 99, 121]⟩ [[97], [120], [99], [121]] from tx_ascii [97, 120, 99, 121] (by decide))
    rw [if_neg (by decide)] at e1 e2
    rw [firstE, if_pos e1, firstE, if_pos e2, firstE]
  rcases h1 with ⟨hf, _⟩ | ⟨hf, x, y, v, l, hx, hy, hl1, hl2, rfl, ho, nf, at_⟩
  · exact absurd hf0 hf
  · obtain rfl := hx.inj (show Tx ⟨#[97, 98, 99, 100]⟩ [[97], [98], [99], [100]] from tx_ascii [97, 98, 99, 100] (by decide))
    obtain rfl := hy.inj (show Tx ⟨#[97, 120, 99, 121]⟩ [[97], [120], [99], [121]] from tx_ascii [97, 120, 99, 121] (by decide))
    obtain rfl : l = awL := nf_unique _ _ 0 0 nf aw_nf.1 (at_.trans aw_nf.2.symm)
    have HO := hide ho
    obtain ⟨a1, c1, e, hp1, _, _⟩ := ho.slice
    subst e
    have KM := hide (merge_any ⟨#[111, 110, 101, 32, 116, 119, 111]⟩ ⟨#[111, 110, 101, 32, 50, 32, 116, 119, 111]⟩ ⟨#[49, 32, 111, 110, 101, 32, 116, 119, 111]⟩ w1 (unhide HU _ (unhide B1)) (by decide) (by decide) (by decide))
    rw [show awL.length = 6 from rfl] at *
    clear hf0 hf hx hy hl1 hl2 nf at_ ho hp1
    go_wp2_with fail
    refine Calls.mono (unhide KM) ?_
    rintro r w2 ⟨h2, b2⟩
    have B2 := hide ((unhide B1).trans (b2.mono (unhide B1).size))
    have HO2 := hide (OwnP.call (unhide HO) b2)
    clear b2 KM HO
    have hf0 : firstE [⟨#[111, 110, 101, 32, 116, 119, 111]⟩, ⟨#[111, 110, 101, 32, 50, 32, 116, 119, 111]⟩, ⟨#[49, 32, 111, 110, 101, 32, 116, 119, 111]⟩] = 0 := by
      have e1 := chk_tx (show Tx ⟨#[111, 110, 101, 32, 116, 119, 111]⟩ [[111], [110], [101], [32], [116], [119], [111]] from tx_ascii [111, 110, 101, 32, 116, 119, 111] (by decide))
      have e2 := chk_tx (show Tx ⟨#[111, 110, 101, 32, 50, 32, 116, 119, 111]⟩ [[111], [110], [101], [32], [50], [32], [116], [119], [111]] from tx_ascii [111, 110, 101, 32, 50, 32, 116, 119, 111] (by decide))
      have e3 := chk_tx (show Tx ⟨#[49, 32, 111, 110, 101, 32, 116, 119, 111]⟩ [[49], [32], [111], [110], [101], [32], [116], [119], [111]] from tx_ascii [49, 32, 111, 110, 101, 32, 116, 119, 111] (by decide))
      rw [if_neg (by decide)] at e1 e2 e3
      rw [firstE, if_pos e1, firstE, if_pos e2, firstE, if_pos e3, firstE]
    rcases h2 with ⟨hf, _⟩ | ⟨hf, x, y, z, S, hx, hy, hz, hl1, hl2, hl3, rfl, hS⟩
    · exact absurd hf0 hf
    · obtain rfl := hx.inj (show Tx ⟨#[111, 110, 101, 32, 116, 119, 111]⟩ [[111], [110], [101], [32], [116], [119], [111]] from tx_ascii [111, 110, 101, 32, 116, 119, 111] (by decide))
      obtain rfl := hy.inj (show Tx ⟨#[111, 110, 101, 32, 50, 32, 116, 119, 111]⟩ [[111], [110], [101], [32], [50], [32], [116], [119], [111]] from tx_ascii [111, 110, 101, 32, 50, 32, 116, 119, 111] (by decide))
      obtain rfl := hz.inj (show Tx ⟨#[49, 32, 111, 110, 101, 32, 116, 119, 111]⟩ [[49], [32], [111], [110], [101], [32], [116], [119], [111]] from tx_ascii [49, 32, 111, 110, 101, 32, 116, 119, 111] (by decide))
      rw [aw_mg] at hS
      obtain rfl : S = ⟨#[49, 32, 111, 110, 101, 32, 50, 32, 116, 119, 111]⟩ := hS.same (show Tx ⟨#[49, 32, 111, 110, 101, 32, 50, 32, 116, 119, 111]⟩ [[49], [32], [111], [110], [101], [32], [50], [32], [116], [119], [111]] from tx_ascii [49, 32, 111, 110, 101, 32, 50, 32, 116, 119, 111] (by decide))
      obtain ⟨W, hW⟩ : ∃ z, w2.alloc (.cells #[.int .i64 1, .int .i64 1, .string ⟨#[]⟩, .int .i64 2, .int .i64 1, .string ⟨#[120]⟩, .int .i64 3, .int .i64 1, .string ⟨#[]⟩, .int .i64 1, .int .i64 1, .string ⟨#[]⟩, .int .i64 2, .int .i64 1, .string ⟨#[121]⟩, .int .i64 3, .int .i64 1, .string ⟨#[]⟩] 39) = z := ⟨_, rfl⟩
      have hr := RowAt.new w2 39 (ptc awL)
      have hal : Below w2.heap.size w2 (w2.alloc (.cells #[.int .i64 1, .int .i64 1, .string ⟨#[]⟩, .int .i64 2, .int .i64 1, .string ⟨#[120]⟩, .int .i64 3, .int .i64 1, .string ⟨#[]⟩, .int .i64 1, .int .i64 1, .string ⟨#[]⟩, .int .i64 2, .int .i64 1, .string ⟨#[121]⟩, .int .i64 3, .int .i64 1, .string ⟨#[]⟩] 39)) := (Below.refl _ _).alloc (Nat.le_refl _) _
      rw [show (ptc awL).toArray = #[.int .i64 1, .int .i64 1, .string ⟨#[]⟩, .int .i64 2, .int .i64 1, .string ⟨#[120]⟩, .int .i64 3, .int .i64 1, .string ⟨#[]⟩, .int .i64 1, .int .i64 1, .string ⟨#[]⟩, .int .i64 2, .int .i64 1, .string ⟨#[121]⟩, .int .i64 3, .int .i64 1, .string ⟨#[]⟩] from rfl, hW] at hr
      rw [hW] at hal
      have HO3 := hide (OwnP.call (unhide HO2) hal)
      have B3 := hide ((unhide B2).trans (hal.mono (unhide B2).size))
      obtain ⟨a9, c9, e9, hp1, _, _⟩ := (unhide HO3).slice
      injection e9 with e91 e92 e93
      clear e92
      subst e91 e93
      have KE := hide (rsame_true a1 (some ⟨w2.heap.size, 0, none⟩) awL c1 6 6 W hp1 (row_pts hr) rfl (by unfold maxLen; omega))
      have HW := hide hW
      clear hf0 hf hx hy hz hl1 hl2 hl3 hS hW hr hal hp1 HO2 HO3 B2
      go_wp2_with fail
      try rw [unhide HW]
      refine Calls.mono (unhide KE) ?_
      rintro r w4 ⟨rfl, b4⟩
      have B4 := hide ((unhide B3).trans (b4.mono (unhide B3).size))
      clear b4 KE
      go_wp2_with fail
      go_ret
      exact ⟨by first | rfl | (simp; done), unhide B4⟩
end Go.Proofs.YtonabfpgdgnpnaaDoor

namespace Go.Proofs.YtonabfpgdgnpnaaDoor
set_option linter.unusedVariables false
set_option linter.unusedSimpArgs false
open Go.ChangeShapes Go.WideShapes Go.ChangeAt Go.RowKit Go.Joins Go.Deep

def longB (l : List ByteArray) : Bool := l.any (fun s => decide (200 < s.size))
theorem long1 (s : ByteArray) (w : World) : Calls Tryd.prog 28 #[.string s] w fun r w' => r = .returned (.bool (decide (200 < s.size))) ∧ w = w' := by
  by_cases h : 200 < s.size
  · have h' : (200 : Int) < (s.size : Int) := by omega
    rw [show decide (200 < s.size) = true by simp [h]]
    go_enter Tryd.func28, Tryd.ntmps28
    go_wp2_with fail
    go_ret
    exact ⟨by first | rfl | simp [h], rfl⟩
  · have h' : ¬ (200 : Int) < (s.size : Int) := by omega
    rw [show decide (200 < s.size) = false by simp; omega]
    go_enter Tryd.func28, Tryd.ntmps28
    go_wp2_with fail
    go_ret
    exact ⟨by first | rfl | (simp; omega), rfl⟩
set_option maxRecDepth 100000 in
set_option maxHeartbeats 4000000 in
theorem ixf_any (B : Nat) (v : Value) (l : List ByteArray) (w : World) (h : w.ownsRow B 9 1 v l.length (l.map .string)) (hl : l.length ≤ 1099511627776) : Calls Tryd.prog 49 #[v, .func (.func 28) #[] #[]] w fun r w' => (∃ k : Int, r = .returned (.int .i64 k) ∧ -9223372036854775808 ≤ k ∧ k ≤ 9223372036854775807 ∧ decide (0 ≤ k) = longB l) ∧ w = w' := by
  obtain ⟨a, c, rfl, _, _⟩ := own_sl h
  have HR := hide h
  obtain ⟨n, hn⟩ : ∃ n, l.length = n := ⟨_, rfl⟩
  rw [hn] at hl HR ⊢
  have HN := hide hn
  have hnI : (n : Int) ≤ 1099511627776 := by omega
  clear h hn
  go_enter Tryd.func49, Tryd.ntmps49
  go_wp2_with fail
  go_loopw [8] (fun i wr => ∃ k : Nat, k ≤ n ∧ i = .int .i64 (k : Int) ∧ Hid (longB (l.take k) = false) ∧ w = wr) (fun i _ => ((n : Int) - intOf i).toNat)
  case atStart => exact ⟨0, by omega, by simp, hide (by simp [longB]), rfl⟩
  case round =>
    obtain ⟨k, hk, rfl, HT, rfl⟩ := hrel
    by_cases c3 : (k : Int) < (n : Int)
    · obtain ⟨s, hs⟩ : ∃ s, l[k]? = some s := ⟨_, List.getElem?_eq_getElem (by rw [unhide HN]; omega)⟩
      obtain ⟨g1, d1, e1, q1, _, _, _⟩ := own_rd (unhide HR) (i := k) (u := .string s) (by simp [hs])
      injection e1 with e1 _ e3
      subst e1 e3
      have k0 : (0 : Int) ≤ (k : Int) := by omega
      have K := hide (long1 s w)
      have HS := hide hs
      clear hs
      by_cases hb : 200 < s.size
      · rw [show decide (200 < s.size) = true by simp [hb]] at K
        have HB := hide hb
        clear hb
        go_wp2_with fail
        refine Calls.mono (unhide K) ?_
        rintro r w2 ⟨rfl, rfl⟩
        go_wp2_with fail
        go_ret
        refine ⟨⟨(k : Int), rfl, by omega, by omega, ?_⟩, rfl⟩
        have h1 : longB l = true := by
          unfold longB
          rw [List.any_eq_true]
          exact ⟨s, List.mem_of_getElem? (unhide HS), by simp [unhide HB]⟩
        rw [h1]
        simp
      · rw [show decide (200 < s.size) = false by simp; omega] at K
        have HT2 : Hid (longB (l.take (k + 1)) = false) := hide (by
          have h1 := unhide HT
          unfold longB at h1 ⊢
          rw [List.take_add_one, unhide HS, List.any_append, h1]
          simp
          omega)
        clear hb HT
        go_wp2_with fail
        refine Calls.mono (unhide K) ?_
        rintro r w2 ⟨rfl, rfl⟩
        go_wp2_with fail
        exact ⟨⟨k + 1, by omega, by simp, HT2, by trivial⟩, by simp [intOf]; omega⟩
    · obtain rfl : n = k := by omega
      go_wp2_with fail
      go_ret
      refine ⟨⟨-1, rfl, by omega, by omega, ?_⟩, rfl⟩
      have h1 := unhide HT
      rw [List.take_of_length_le (by rw [unhide HN]; exact Nat.le_refl _)] at h1
      rw [h1]
      simp
set_option maxRecDepth 100000 in
set_option maxHeartbeats 4000000 in
theorem long_any (B : Nat) (v : Value) (l : List ByteArray) (w : World) (h : w.ownsRow B 9 1 v l.length (l.map .string)) (hl : l.length ≤ 1099511627776) : Calls Tryd.prog 11 #[v] w fun r w' => r = .returned (.bool (longB l)) ∧ w = w' := by
  have K := hide (ixf_any B v l w h hl)
  have KC : Hid (Calls Tryd.prog 27 #[v, .func (.func 28) #[] #[]] w fun r w' => r = .returned (.bool (longB l)) ∧ w = w') := hide (by
    clear h
    go_enter Tryd.func27, Tryd.ntmps27
    go_wp2_with fail
    refine Calls.mono (unhide K) ?_
    rintro r w1 ⟨⟨k, rfl, h1, h2, h3⟩, rfl⟩
    have H3 := hide h3
    clear h3
    go_wp2_with fail
    go_ret
    exact ⟨by rw [← unhide H3]; rfl, rfl⟩)
  clear h K
  go_enter Tryd.func11, Tryd.ntmps11
  go_wp2_with fail
  refine Calls.mono (unhide KC) ?_
  rintro r w1 ⟨rfl, rfl⟩
  go_wp2_with fail
  go_ret
  exact ⟨rfl, rfl⟩
end Go.Proofs.YtonabfpgdgnpnaaDoor
