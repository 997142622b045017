/- What is put is read as it was; what is read, put again, is the bytes. -/
import Derived.Test.YtbnfilhilgjnfaaDoorGGet
import Derived.Test.YtbnfilhilgjnfaaDoorGU8
namespace Go.Proofs.YtbnfilhilgjnfaaDoor
set_option linter.unusedVariables false
set_option linter.unusedSimpArgs false
set_option maxRecDepth 100000
open Go.ChangeShapes Go.WideShapes Go.ChangeAt Go.RowKit Go.Joins

namespace Oc
theorem numOf_num8 (u : Nat) (hu : u < 18446744073709551616) : numOf (num8 u) = u := by
  simp only [num8, numOf, byteK, List.range, List.range.loop, List.map_cons, List.map_nil, List.foldl_cons, List.foldl_nil]
  simp only [Nat.reduceMul, Nat.reduceSub, Nat.reducePow]
  omega
theorem numOf8 (a0 a1 a2 a3 a4 a5 a6 a7 : Nat) (h0 : a0 < 256) (h1 : a1 < 256) (h2 : a2 < 256) (h3 : a3 < 256) (h4 : a4 < 256) (h5 : a5 < 256) (h6 : a6 < 256) (h7 : a7 < 256) :
    num8 (numOf [a0, a1, a2, a3, a4, a5, a6, a7]) = [a0, a1, a2, a3, a4, a5, a6, a7] := by
  simp only [num8, numOf, byteK, List.range, List.range.loop, List.map_cons, List.map_nil, List.foldl_cons, List.foldl_nil]
  simp only [Nat.reduceMul, Nat.reduceSub, Nat.reducePow, List.cons.injEq, and_true]
  refine ⟨?_, ?_, ?_, ?_, ?_, ?_, ?_, ?_⟩ <;> omega
theorem num8_numOf (l : List Nat) (hl : l.length = 8) (h : ∀ y ∈ l, y < 256) : num8 (numOf l) = l := by
  match l, hl with
  | [a0, a1, a2, a3, a4, a5, a6, a7], _ =>
    exact numOf8 a0 a1 a2 a3 a4 a5 a6 a7 (h _ (by simp)) (h _ (by simp)) (h _ (by simp)) (h _ (by simp)) (h _ (by simp)) (h _ (by simp)) (h _ (by simp)) (h _ (by simp))

end Oc
theorem num8_eq (u : Nat) : num8 u = Oc.num8 u := rfl
/-- bytes from a place on -/
def Ahead (l : List Nat) (k : Nat) (x : List Nat) : Prop := k + x.length ≤ l.length ∧ (l.drop k).take x.length = x
theorem Ahead.app {l : List Nat} {k : Nat} {x y : List Nat} (h : Ahead l k (x ++ y)) : Ahead l k x ∧ Ahead l (k + x.length) y := by
  obtain ⟨h1, h2⟩ := h
  rw [List.length_append] at h1 h2
  have e : (l.drop k).take x.length = x := by
    have := congrArg (List.take x.length) h2
    rw [List.take_take, Nat.min_eq_left (by omega), List.take_left' rfl] at this
    exact this
  refine ⟨⟨by omega, e⟩, by omega, ?_⟩
  have := congrArg (List.drop x.length) h2
  rw [List.drop_take, List.drop_drop, List.drop_left' rfl, Nat.add_sub_cancel_left] at this
  exact this
theorem win_at {l : List Nat} {k u : Nat} {lo hi : Int} (h : Ahead l k (num8 u)) (hu : u ≤ 9223372036854775807) (h1 : lo ≤ (u : Int)) (h2 : (u : Int) ≤ hi) : Oc.winR l lo hi k 0 = ((u : Int), k + 8, 0) := by
  obtain ⟨a, b⟩ := h
  rw [num8_len] at a b
  have e : Oc.numOf ((l.drop k).take 8) = u := by rw [b, num8_eq, Oc.numOf_num8 u (by omega)]
  unfold Oc.winR
  rw [if_neg (by simp), if_neg (by omega), e, if_neg (by omega)]
theorem num_at' {l : List Nat} {k u : Nat} (h : Ahead l k (num8 u)) (hu : u ≤ 9223372036854775807) : Oc.numR l k 0 = ((u : Int), k + 8, 0) := win_at h hu (by omega) (by omega)
theorem strOf_txt (s : ByteArray) : Oc.strOf (txt s) = s := Oc.nats_str s
theorem text_at {l : List Nat} {k : Nat} {s : ByteArray} (h : Ahead l k (num8 (txt s).length ++ txt s)) (hs : s.size ≤ 1024) (hv : Lib.validD s.data.toList = true) (hc : Lib.runeCount s ≤ 256) : Oc.textR l 256 k 0 = (s, k + 8 + s.size, 0) := by
  obtain ⟨h1, h2⟩ := h.app
  obtain ⟨a, b⟩ := h1
  obtain ⟨c, d⟩ := h2
  rw [num8_len] at a b c d
  have e : Oc.numOf ((l.drop k).take 8) = s.size := by rw [b, num8_eq, Oc.numOf_num8 _ (by rw [txt_len]; omega), txt_len]
  have eb : Oc.bodyT l k = s := by
    unfold Oc.bodyT
    rw [e, ← txt_len, d]
    exact strOf_txt s
  rw [txt_len] at c
  have er : Oc.rightE s 256 = 0 := by
    unfold Oc.rightE
    rw [if_neg (by rw [hv]; simp), if_neg (by omega)]
  unfold Oc.textR
  rw [if_neg (by simp), if_neg (by omega), eb, e, if_neg (by omega), if_neg (by omega), if_neg (by omega), er, if_neg (by simp)]
/-- a part that can be told -/
def PtOk (p : Ed.Pt) : Prop := 0 ≤ p.kind ∧ p.kind ≤ 9223372036854775807 ∧ 0 ≤ p.n ∧ p.n ≤ 9223372036854775807 ∧ p.text.size ≤ 1024 ∧ Lib.validD p.text.data.toList = true ∧ Lib.runeCount p.text ≤ 256
theorem prt_eq (p : Ed.Pt) : prt p = num8 p.kind.toNat ++ (num8 p.n.toNat ++ (num8 (txt p.text).length ++ txt p.text)) := by
  simp [prt, putB, putN, prN, List.append_assoc]
theorem part_at {l : List Nat} {k : Nat} {p : Ed.Pt} (h : Ahead l k (prt p)) (hp : PtOk p) : partR l k 0 = (p, k + (prt p).length, 0) := by
  obtain ⟨q1, q2, q3, q4, q5, q6, q7⟩ := hp
  have hlen := prt_len p
  rw [prt_eq] at h
  obtain ⟨h1, h⟩ := h.app
  obtain ⟨h2, h3⟩ := h.app
  rw [num8_len] at h2 h3
  rw [num8_len] at h3
  have e1 := num_at' h1 (by omega)
  have e2 := num_at' h2 (by omega)
  have e3 := text_at h3 q5 q6 q7
  unfold partR
  rw [e1]
  simp only
  rw [e2]
  simp only
  rw [e3, hlen]
  simp only
  rw [show ((p.kind.toNat : Nat) : Int) = p.kind by omega, show ((p.n.toNat : Nat) : Int) = p.n by omega, show k + 8 + 8 + 8 + p.text.size = k + (24 + p.text.size) by omega]
theorem parts_at {l : List Nat} {k : Nat} {es : List Ed.Pt} (h : Ahead l k (prts es)) (hp : ∀ p ∈ es, PtOk p) : ∀ j, j ≤ es.length → partsR l k 0 j = (es.take j, k + (prts (es.take j)).length, 0) := by
  intro j
  induction j with
  | zero => intro _; simp [partsR, prts]
  | succ j ih =>
    intro hj
    obtain ⟨p, hpk⟩ : ∃ p, es[j]? = some p := ⟨_, List.getElem?_eq_getElem (by omega)⟩
    have e := ih (by omega)
    have hA : Ahead l (k + (prts (es.take j)).length) (prt p) := by
      have hs : prts es = prts (es.take j) ++ (prt p ++ prts (es.drop (j + 1))) := by
        have h1 : es = es.take j ++ (p :: es.drop (j + 1)) := by
          have h2 : es.drop j = p :: es.drop (j + 1) := by
            rw [List.drop_eq_getElem_cons (by omega)]
            have := List.getElem?_eq_some_iff.1 hpk
            obtain ⟨_, h3⟩ := this
            rw [h3]
          rw [← h2, List.take_append_drop]
        conv => lhs; rw [h1]
        simp [prts]
      rw [hs] at h
      exact (h.app.2).app.1
    unfold partsR
    rw [e]
    simp only
    rw [part_at hA (hp p (List.mem_of_getElem? hpk))]
    simp only
    have ht : es.take (j + 1) = es.take j ++ [p] := by rw [List.take_add_one, hpk]; rfl
    rw [prts_take hpk, List.length_append, ht, Nat.add_assoc]
theorem weight_n (l : List Ed.Pt) (hl : ∀ p ∈ l, Ed.fitsB p = true) : ∀ a b : Int, ∃ a' b', l.foldl Ed.wStep (some (a, b)) = some (a', b') ∧ a ≤ a' ∧ ∀ p ∈ l, p.kind = 2 → p.n ≤ a' - a := by
  induction l with
  | nil => intro a b; exact ⟨a, b, rfl, by omega, fun p hp => by cases hp⟩
  | cons p l ih =>
    intro a b
    have hp := hl p (List.mem_cons_self ..)
    obtain ⟨_, h1, h2, _⟩ := fits_size hp
    obtain ⟨a', b', h, hle, hs⟩ := ih (fun x hx => hl x (List.mem_cons_of_mem _ hx)) (if p.kind = 2 then a + p.n else a) (if p.kind = 3 then b + p.n else b)
    refine ⟨a', b', ?_, ?_, ?_⟩
    · rw [List.foldl_cons, ← h]
      unfold Ed.wStep
      simp only
      rw [if_pos hp]
    · split at hle <;> omega
    · intro x hx hk
      rcases List.mem_cons.1 hx with rfl | hx
      · rw [if_pos hk] at hle; omega
      · have := hs x hx hk
        split at this <;> omega
theorem light_pts {l : List Ed.Pt} (h : lightB l = true) : ∀ p ∈ l, PtOk p := by
  intro p hp
  have hfa := light_facts h
  have hf := hfa.2.1 p hp
  obtain ⟨z, h1, h2, h3, h4⟩ := fits_size hf
  have hsz : p.text.size ≤ 1024 := by
    obtain ⟨i, hi⟩ := List.getElem?_of_mem hp
    have e : sumS (l.take (i + 1)) = sumS (l.take i) + p.text.size := by unfold sumS; rw [List.take_add_one, hi]; simp
    have := sumS_take l (i + 1)
    have := hfa.2.2
    omega
  have hn : p.kind = 2 → p.n ≤ 256 := by
    intro hk
    obtain ⟨a', b', hw, _, hs⟩ := weight_n l hfa.2.1 0 0
    have h5 := hs p hp hk
    unfold lightB at h
    simp only [Bool.and_eq_true, decide_eq_true_eq] at h
    have h6 := h.2
    unfold putsP Ed.wL at h6
    rw [hw] at h6
    have h7 : a' ≤ 256 := h6
    omega
  unfold Ed.fitsB at hf
  simp only [Bool.and_eq_true, Bool.or_eq_true, decide_eq_true_eq] at hf
  refine ⟨by omega, by omega, by omega, by omega, hsz, ?_, ?_⟩
  · obtain ⟨_, ⟨_, h0⟩ | ⟨_, hv, _⟩⟩ := hf
    · have hnil : p.text.data.toList = [] := List.eq_nil_of_length_eq_zero (by rw [← Lib.size_eq]; exact h0)
      rw [hnil]; rfl
    · exact hv
  · obtain ⟨_, ⟨_, h0⟩ | ⟨hk, _, hc⟩⟩ := hf
    · have := Lib.runeCount_le p.text; omega
    · have := hn hk; omega
theorem Ahead.self (x y : List Nat) : Ahead (x ++ y) 0 x := ⟨by simp, by rw [List.drop_zero, List.take_left' rfl]⟩
theorem Ahead.all (x : List Nat) : Ahead x 0 x := ⟨by simp, by rw [List.drop_zero, List.take_of_length_le (Nat.le_refl _)]⟩
theorem head_eq (k x0 x1 x2 x3 x4 x5 x6 : Int) (n : Nat) : putN [] (msgN k x0 x1 x2 x3 x4 x5 x6 n) 9 = num8 k.toNat ++ (num8 x0.toNat ++ (num8 x1.toNat ++ (num8 x2.toNat ++ (num8 x3.toNat ++ (num8 x4.toNat ++ (num8 x5.toNat ++ (num8 x6.toNat ++ (num8 n)))))))) := by
  simp [putN, msgN, List.append_assoc]
theorem msg_back (k x0 x1 x2 x3 x4 x5 x6 : Int) (l : List Ed.Pt) (h : MsgOk k (nsF x0 x1 x2 x3 x4 x5 x6) l) : GetOk (msgL k x0 x1 x2 x3 x4 x5 x6 l) ∧ gEd (msgL k x0 x1 x2 x3 x4 x5 x6 l) = l ∧ nVal (msgL k x0 x1 x2 x3 x4 x5 x6 l) 0 = k ∧ nVal (msgL k x0 x1 x2 x3 x4 x5 x6 l) 1 = x0 ∧ nVal (msgL k x0 x1 x2 x3 x4 x5 x6 l) 2 = x1 ∧ nVal (msgL k x0 x1 x2 x3 x4 x5 x6 l) 3 = x2 ∧ nVal (msgL k x0 x1 x2 x3 x4 x5 x6 l) 4 = x3 ∧ nVal (msgL k x0 x1 x2 x3 x4 x5 x6 l) 5 = x4 ∧ nVal (msgL k x0 x1 x2 x3 x4 x5 x6 l) 6 = x5 ∧ nVal (msgL k x0 x1 x2 x3 x4 x5 x6 l) 7 = x6 := by
  have hf := light_facts h.2.2.2.2
  have hpos := fun i hi => msgN_pos h l.length hf.1 i hi
  have A := Ahead.all (msgL k x0 x1 x2 x3 x4 x5 x6 l)
  have hlen := msgL_len k x0 x1 x2 x3 x4 x5 x6 l
  obtain ⟨L, hL⟩ : ∃ L, msgL k x0 x1 x2 x3 x4 x5 x6 l = L := ⟨_, rfl⟩
  rw [hL] at hlen ⊢
  rw [hL] at A
  have A9 : Ahead L 0 (putN [] (msgN k x0 x1 x2 x3 x4 x5 x6 l.length) 9 ++ prts l) := by
    have := A
    rw [← hL] at this ⊢
    exact this
  obtain ⟨AH, AP⟩ := A9.app
  rw [putN_len] at AP
  rw [head_eq] at AH
  obtain ⟨A0, AH1⟩ := AH.app
  rw [num8_len] at AH1
  obtain ⟨A1, AH2⟩ := AH1.app
  rw [num8_len] at AH2
  obtain ⟨A2, AH3⟩ := AH2.app
  rw [num8_len] at AH3
  obtain ⟨A3, AH4⟩ := AH3.app
  rw [num8_len] at AH4
  obtain ⟨A4, AH5⟩ := AH4.app
  rw [num8_len] at AH5
  obtain ⟨A5, AH6⟩ := AH5.app
  rw [num8_len] at AH6
  obtain ⟨A6, AH7⟩ := AH6.app
  rw [num8_len] at AH7
  obtain ⟨A7, AH8⟩ := AH7.app
  rw [num8_len] at AH8
  have A8 := AH8
  have s0 : nSt L 0 = (0, 0) := rfl
  have v0p := hpos 0 (by omega)
  have e0 : Oc.numR L 0 0 = (((k.toNat : Nat) : Int), 8, 0) := num_at' (k := 0) (by simpa using A0) (by have : msgN k x0 x1 x2 x3 x4 x5 x6 l.length 0 = k := rfl; omega)
  have s1 : nSt L 1 = (8, 0) := by show (Oc.numR L (nSt L 0).1 (nSt L 0).2).2 = _; rw [s0]; simp only; rw [e0]
  have v0 : nVal L 0 = k := by unfold nVal; rw [s0]; simp only; rw [e0]; simp only; have : msgN k x0 x1 x2 x3 x4 x5 x6 l.length 0 = k := rfl; omega
  have v1p := hpos 1 (by omega)
  have e1 : Oc.numR L 8 0 = (((x0.toNat : Nat) : Int), 16, 0) := num_at' (k := 8) (by simpa using A1) (by have : msgN k x0 x1 x2 x3 x4 x5 x6 l.length 1 = x0 := rfl; omega)
  have s2 : nSt L 2 = (16, 0) := by show (Oc.numR L (nSt L 1).1 (nSt L 1).2).2 = _; rw [s1]; simp only; rw [e1]
  have v1 : nVal L 1 = x0 := by unfold nVal; rw [s1]; simp only; rw [e1]; simp only; have : msgN k x0 x1 x2 x3 x4 x5 x6 l.length 1 = x0 := rfl; omega
  have v2p := hpos 2 (by omega)
  have e2 : Oc.numR L 16 0 = (((x1.toNat : Nat) : Int), 24, 0) := num_at' (k := 16) (by simpa using A2) (by have : msgN k x0 x1 x2 x3 x4 x5 x6 l.length 2 = x1 := rfl; omega)
  have s3 : nSt L 3 = (24, 0) := by show (Oc.numR L (nSt L 2).1 (nSt L 2).2).2 = _; rw [s2]; simp only; rw [e2]
  have v2 : nVal L 2 = x1 := by unfold nVal; rw [s2]; simp only; rw [e2]; simp only; have : msgN k x0 x1 x2 x3 x4 x5 x6 l.length 2 = x1 := rfl; omega
  have v3p := hpos 3 (by omega)
  have e3 : Oc.numR L 24 0 = (((x2.toNat : Nat) : Int), 32, 0) := num_at' (k := 24) (by simpa using A3) (by have : msgN k x0 x1 x2 x3 x4 x5 x6 l.length 3 = x2 := rfl; omega)
  have s4 : nSt L 4 = (32, 0) := by show (Oc.numR L (nSt L 3).1 (nSt L 3).2).2 = _; rw [s3]; simp only; rw [e3]
  have v3 : nVal L 3 = x2 := by unfold nVal; rw [s3]; simp only; rw [e3]; simp only; have : msgN k x0 x1 x2 x3 x4 x5 x6 l.length 3 = x2 := rfl; omega
  have v4p := hpos 4 (by omega)
  have e4 : Oc.numR L 32 0 = (((x3.toNat : Nat) : Int), 40, 0) := num_at' (k := 32) (by simpa using A4) (by have : msgN k x0 x1 x2 x3 x4 x5 x6 l.length 4 = x3 := rfl; omega)
  have s5 : nSt L 5 = (40, 0) := by show (Oc.numR L (nSt L 4).1 (nSt L 4).2).2 = _; rw [s4]; simp only; rw [e4]
  have v4 : nVal L 4 = x3 := by unfold nVal; rw [s4]; simp only; rw [e4]; simp only; have : msgN k x0 x1 x2 x3 x4 x5 x6 l.length 4 = x3 := rfl; omega
  have v5p := hpos 5 (by omega)
  have e5 : Oc.numR L 40 0 = (((x4.toNat : Nat) : Int), 48, 0) := num_at' (k := 40) (by simpa using A5) (by have : msgN k x0 x1 x2 x3 x4 x5 x6 l.length 5 = x4 := rfl; omega)
  have s6 : nSt L 6 = (48, 0) := by show (Oc.numR L (nSt L 5).1 (nSt L 5).2).2 = _; rw [s5]; simp only; rw [e5]
  have v5 : nVal L 5 = x4 := by unfold nVal; rw [s5]; simp only; rw [e5]; simp only; have : msgN k x0 x1 x2 x3 x4 x5 x6 l.length 5 = x4 := rfl; omega
  have v6p := hpos 6 (by omega)
  have e6 : Oc.numR L 48 0 = (((x5.toNat : Nat) : Int), 56, 0) := num_at' (k := 48) (by simpa using A6) (by have : msgN k x0 x1 x2 x3 x4 x5 x6 l.length 6 = x5 := rfl; omega)
  have s7 : nSt L 7 = (56, 0) := by show (Oc.numR L (nSt L 6).1 (nSt L 6).2).2 = _; rw [s6]; simp only; rw [e6]
  have v6 : nVal L 6 = x5 := by unfold nVal; rw [s6]; simp only; rw [e6]; simp only; have : msgN k x0 x1 x2 x3 x4 x5 x6 l.length 6 = x5 := rfl; omega
  have v7p := hpos 7 (by omega)
  have e7 : Oc.numR L 56 0 = (((x6.toNat : Nat) : Int), 64, 0) := num_at' (k := 56) (by simpa using A7) (by have : msgN k x0 x1 x2 x3 x4 x5 x6 l.length 7 = x6 := rfl; omega)
  have s8 : nSt L 8 = (64, 0) := by show (Oc.numR L (nSt L 7).1 (nSt L 7).2).2 = _; rw [s7]; simp only; rw [e7]
  have v7 : nVal L 7 = x6 := by unfold nVal; rw [s7]; simp only; rw [e7]; simp only; have : msgN k x0 x1 x2 x3 x4 x5 x6 l.length 7 = x6 := rfl; omega
  have w9 : Oc.winR L 0 400 64 0 = ((l.length : Int), 72, 0) := win_at A8 (by have := hf.1; omega) (by omega) (by have := hf.1; omega)
  have hed : editR L 64 0 = (l, 72 + (prts l).length, 0) := by
    unfold editR
    rw [w9]
    simp only
    rw [Int.toNat_natCast, parts_at (by simpa using AP) (light_pts h.2.2.2.2) l.length (Nat.le_refl _), List.take_of_length_le (Nat.le_refl _)]
  have hge : gEd L = l := by unfold gEd; rw [s8]; simp only; rw [hed]
  have hgf : gFin L = (72 + (prts l).length, 0) := by unfold gFin; rw [s8]; simp only; rw [hed]
  refine ⟨⟨?_, ?_⟩, hge, v0, v1, v2, v3, v4, v5, v6, v7⟩
  · rw [hgf, hlen]
    unfold Oc.endE
    rw [if_neg (by simp), if_neg (by simp only; rw [prts_len]; omega)]
  · rw [hge, v0, v1, v2, v3, v4, v5, v6, v7]
    exact h

theorem win_ok {l : List Nat} {lo hi : Int} {k : Nat} {e : Int} (h : (Oc.winR l lo hi k e).2.2 = 0) (h8 : U8 l) : e = 0 ∧ (Oc.winR l lo hi k e).2.1 = k + 8 ∧ k + 8 ≤ l.length ∧ lo ≤ (Oc.winR l lo hi k e).1 ∧ 0 ≤ (Oc.winR l lo hi k e).1 ∧ (l.drop k).take 8 = num8 (Oc.winR l lo hi k e).1.toNat := by
  unfold Oc.winR at h ⊢
  by_cases he : e ≠ 0
  · rw [if_pos he] at h; exact absurd h he
  rw [if_neg he] at h ⊢
  by_cases hs : l.length < k + 8
  · rw [if_pos hs] at h; cases h
  rw [if_neg hs] at h ⊢
  split at h
  · cases h
  · rename_i hr
    rw [if_neg hr]
    refine ⟨by omega, rfl, by omega, by omega, by omega, ?_⟩
    simp only
    rw [Int.toNat_natCast, num8_eq, Oc.num8_numOf _ (by rw [List.length_take, List.length_drop]; omega) (fun y hy => h8 y (List.mem_of_mem_drop (List.mem_of_mem_take hy)))]
theorem take_next {l : List Nat} {k : Nat} {x : List Nat} (h : (l.drop k).take x.length = x) : l.take (k + x.length) = l.take k ++ x := by
  rw [List.take_add, h]
theorem text_ok {l : List Nat} {q k : Nat} {e : Int} (h : (Oc.textR l q k e).2.2 = 0) (h8 : U8 l) : e = 0 ∧ l.take (Oc.textR l q k e).2.1 = l.take k ++ (num8 (txt (Oc.textR l q k e).1).length ++ txt (Oc.textR l q k e).1) ∧ (Oc.textR l q k e).2.1 ≤ l.length := by
  unfold Oc.textR at h ⊢
  by_cases he : e ≠ 0
  · rw [if_pos he] at h; exact absurd h he
  rw [if_neg he] at h ⊢
  by_cases hs : l.length < k + 8
  · rw [if_pos hs] at h; cases h
  rw [if_neg hs] at h ⊢
  by_cases h63 : 9223372036854775807 < Oc.numOf ((l.drop k).take 8)
  · rw [if_pos h63] at h; cases h
  rw [if_neg h63] at h ⊢
  by_cases hq : 4 * q < Oc.numOf ((l.drop k).take 8)
  · rw [if_pos hq] at h; cases h
  rw [if_neg hq] at h ⊢
  by_cases hl : l.length < k + 8 + Oc.numOf ((l.drop k).take 8)
  · rw [if_pos hl] at h; cases h
  rw [if_neg hl] at h ⊢
  by_cases hr : Oc.rightE (Oc.bodyT l k) q ≠ 0
  · rw [if_pos hr] at h; exact absurd h hr
  rw [if_neg hr]
  refine ⟨by omega, ?_, by simp only; omega⟩
  simp only
  have hb : txt (Oc.bodyT l k) = (l.drop (k + 8)).take (Oc.numOf ((l.drop k).take 8)) := Oc.nats_of (fun y hy => h8 y (List.mem_of_mem_drop (List.mem_of_mem_take hy)))
  have hbl : (txt (Oc.bodyT l k)).length = Oc.numOf ((l.drop k).take 8) := by rw [hb, List.length_take, List.length_drop]; omega
  have hn : (l.drop k).take 8 = num8 (Oc.numOf ((l.drop k).take 8)) := by
    rw [num8_eq, Oc.num8_numOf _ (by rw [List.length_take, List.length_drop]; omega) (fun y hy => h8 y (List.mem_of_mem_drop (List.mem_of_mem_take hy)))]
  have t1 : l.take (k + 8) = l.take k ++ num8 (Oc.numOf ((l.drop k).take 8)) := by
    have := take_next (l := l) (k := k) (x := num8 (Oc.numOf ((l.drop k).take 8))) (by rw [num8_len]; exact hn)
    rw [num8_len] at this
    exact this
  have t2 := take_next (l := l) (k := k + 8) (x := txt (Oc.bodyT l k)) (by rw [hbl]; exact hb.symm)
  rw [hbl] at t2
  rw [t2, t1, hbl, List.append_assoc]
theorem num_ok {l : List Nat} {k : Nat} {e : Int} (h : (Oc.numR l k e).2.2 = 0) (h8 : U8 l) : e = 0 ∧ (Oc.numR l k e).2.1 ≤ l.length ∧ 0 ≤ (Oc.numR l k e).1 ∧ l.take (Oc.numR l k e).2.1 = l.take k ++ num8 (Oc.numR l k e).1.toNat := by
  obtain ⟨h1, h2, h3, _, h4, h5⟩ := win_ok h h8
  refine ⟨h1, by rw [show (Oc.numR l k e).2.1 = k + 8 from h2]; exact h3, h4, ?_⟩
  rw [show (Oc.numR l k e).2.1 = k + 8 from h2]
  have := take_next (l := l) (k := k) (x := num8 (Oc.numR l k e).1.toNat) (by rw [num8_len]; exact h5)
  rw [num8_len] at this
  exact this
theorem part_ok {l : List Nat} {k : Nat} {e : Int} (h : (partR l k e).2.2 = 0) (h8 : U8 l) : e = 0 ∧ l.take (partR l k e).2.1 = l.take k ++ prt (partR l k e).1 ∧ (partR l k e).2.1 ≤ l.length := by
  obtain ⟨c1, c2, c3⟩ := text_ok (show (Oc.textR l 256 _ _).2.2 = 0 from h) h8
  obtain ⟨b1, b2, b3, b4⟩ := num_ok c1 h8
  obtain ⟨a1, a2, a3, a4⟩ := num_ok b1 h8
  refine ⟨a1, ?_, c3⟩
  rw [prt_eq]
  rw [show l.take (partR l k e).2.1 = _ from c2, b4, a4]
  simp only [List.append_assoc]
  rfl
theorem parts_ok {l : List Nat} {k : Nat} {e : Int} (h8 : U8 l) (hk : k ≤ l.length) : ∀ m, (partsR l k e m).2.2 = 0 → e = 0 ∧ l.take (partsR l k e m).2.1 = l.take k ++ prts (partsR l k e m).1 ∧ (partsR l k e m).2.1 ≤ l.length := by
  intro m
  induction m with
  | zero => intro h; exact ⟨h, by simp [partsR, prts], hk⟩
  | succ m ih =>
    intro h
    obtain ⟨p1, p2, p3⟩ := part_ok (show (partR l (partsR l k e m).2.1 (partsR l k e m).2.2).2.2 = 0 from h) h8
    obtain ⟨q1, q2, q3⟩ := ih p1
    refine ⟨q1, ?_, p3⟩
    have e1 : prts (partsR l k e (m + 1)).1 = prts (partsR l k e m).1 ++ prt (partR l (partsR l k e m).2.1 (partsR l k e m).2.2).1 := by
      show prts ((partsR l k e m).1 ++ [_]) = _
      simp [prts]
    rw [e1, show l.take (partsR l k e (m + 1)).2.1 = _ from p2, q2, List.append_assoc]
theorem nst_ok {l : List Nat} (h8 : U8 l) : ∀ i, (nSt l i).2 = 0 → l.take (nSt l i).1 = putN [] (nVal l) i ∧ (nSt l i).1 ≤ l.length ∧ ∀ j, j < i → 0 ≤ nVal l j := by
  intro i
  induction i with
  | zero => intro _; exact ⟨by simp [nSt, putN], Nat.zero_le _, fun j hj => by omega⟩
  | succ i ih =>
    intro h
    obtain ⟨p1, p2, p3, p4⟩ := num_ok (show (Oc.numR l (nSt l i).1 (nSt l i).2).2.2 = 0 from h) h8
    obtain ⟨q1, q2, q3⟩ := ih p1
    refine ⟨?_, p2, fun j hj => ?_⟩
    · show l.take (Oc.numR l (nSt l i).1 (nSt l i).2).2.1 = putN [] (nVal l) i ++ num8 (nVal l i).toNat
      rw [p4, q1]
      rfl
    · by_cases hji : j = i
      · subst hji; exact p3
      · exact q3 j (by omega)
theorem nst_le (l : List Nat) : ∀ i, (nSt l i).1 ≤ l.length := by
  intro i
  induction i with
  | zero => exact Nat.zero_le _
  | succ i ih =>
    show (Oc.winR l 0 9223372036854775807 (nSt l i).1 (nSt l i).2).2.1 ≤ l.length
    unfold Oc.winR
    repeat' split
    all_goals first | exact ih | (simp only; omega)
theorem get_put {l : List Nat} (h8 : U8 l) (h : GetOk l) : msgL (nVal l 0) (nVal l 1) (nVal l 2) (nVal l 3) (nVal l 4) (nVal l 5) (nVal l 6) (nVal l 7) (gEd l) = l := by
  obtain ⟨he, _⟩ := h
  unfold Oc.endE at he
  have hf0 : (gFin l).2 = 0 := by
    by_cases hz : (gFin l).2 = 0
    · exact hz
    · rw [if_pos hz] at he; exact absurd he hz
  rw [if_neg (by simp [hf0])] at he
  have hge : ¬ (gFin l).1 < l.length := fun hlt => by rw [if_pos hlt] at he; cases he
  have hw0 : ∀ k e, k ≤ l.length → (partsR l (Oc.winR l 0 400 k e).2.1 (Oc.winR l 0 400 k e).2.2 (Oc.winR l 0 400 k e).1.toNat).2.2 = 0 → e = 0 ∧ l.take (editR l k e).2.1 = l.take k ++ (num8 (editR l k e).1.length ++ prts (editR l k e).1) ∧ (editR l k e).2.1 ≤ l.length := by
    intro k e hk hz
    have hkw : (Oc.winR l 0 400 k e).2.1 ≤ l.length := by
      unfold Oc.winR
      repeat' split
      all_goals first | exact hk | (simp only; omega)
    obtain ⟨p1, p2, p3⟩ := parts_ok h8 hkw _ hz
    obtain ⟨w1, w2, w3, _, w4, w5⟩ := win_ok p1 h8
    refine ⟨w1, ?_, p3⟩
    have t := take_next (l := l) (k := k) (x := num8 (Oc.winR l 0 400 k e).1.toNat) (by rw [num8_len]; exact w5)
    rw [num8_len] at t
    show l.take (partsR l _ _ _).2.1 = _
    rw [p2, w2, t, List.append_assoc]
    unfold editR
    rw [partsR_len, w2]
  have hk8 : (nSt l 8).1 ≤ l.length ∨ True := .inr trivial
  have hle : (nSt l 8).1 ≤ l.length := nst_le l 8
  obtain ⟨e8, hed, hfl⟩ := hw0 (nSt l 8).1 (nSt l 8).2 hle hf0
  obtain ⟨hn, _, _⟩ := nst_ok h8 8 e8
  have hall : l.take (editR l (nSt l 8).1 (nSt l 8).2).2.1 = l := List.take_of_length_le (by
    show l.length ≤ (gFin l).1
    omega)
  rw [hall, hn] at hed
  have e9 : putN [] (msgN (nVal l 0) (nVal l 1) (nVal l 2) (nVal l 3) (nVal l 4) (nVal l 5) (nVal l 6) (nVal l 7) (gEd l).length) 9 = putN [] (nVal l) 8 ++ num8 (gEd l).length := by
    simp [putN, msgN]
  rw [msgL, e9, List.append_assoc]
  exact hed.symm
end Go.Proofs.YtbnfilhilgjnfaaDoor
