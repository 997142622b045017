/- Whether a message may be: the program's answer. -/
import Derived.Test.YtbnfilhilgjnfaaDoorFAl5
import Derived.Test.YtbnfilhilgjnfaaDoorEAll
namespace Go.Proofs.YtbnfilhilgjnfaaDoor
set_option linter.unusedVariables false
set_option linter.unusedSimpArgs false
open Go.ChangeShapes Go.WideShapes Go.ChangeAt Go.RowKit Go.Joins

def mostL : List Nat := [7, 1099511627776, 1099511627776, 1099511627776, 1099511627776, 31, 1000]
def MTab (w : World) : Prop := Tab w 1 (i64v mostL)
/-- how many code points are put -/
def putsP (l : List Ed.Pt) : Int := match Ed.wL l with
  | none => 0
  | some (p, _) => p
def lightB (l : List Ed.Pt) : Bool := decide (l.length ≤ 400) && (Ed.sizeL l).isSome && decide (putsP l ≤ 256)
set_option maxRecDepth 100000 in
set_option maxHeartbeats 4000000 in
theorem flight_any (a : Option Addr) (l : List Ed.Pt) (c : Nat) (w : World) (hT : Ed.UT w) (hp : Ed.PtsAt w a l) (hc : l.length ≤ 4000) (hs : ∀ p ∈ l, p.text.size ≤ 281474976710656) :
    Calls Tryd.prog 12 #[.slice a l.length c] w fun r w' => r = .returned (.bool (lightB l)) ∧ Below w.heap.size w w' := by
  obtain ⟨n, hn⟩ : ∃ n, l.length = n := ⟨_, rfl⟩
  have H1 := hide (Ed.size_any a l c w hT hp (by unfold maxLen; omega) hs)
  have H2 : Hid (∀ w1, Below w.heap.size w w1 → Calls Tryd.prog 29 #[.slice a l.length c] w1 fun r w' => r = .returned (Ed.wVal l) ∧ Below w1.heap.size w1 w') := hide (fun w1 hb => Ed.weight_any a l c w1 (hT.call hb) (hp.call hb) hc hs)
  rw [hn] at H1 H2 hc ⊢
  have HN := hide hn
  clear hT hp hs hn
  by_cases h4 : n ≤ 400
  · have h4z : ¬ (400 : Int) < (n : Int) := by omega
    go_enter Tryd.func12, Tryd.ntmps12
    go_wp2_with fail
    refine Calls.mono (unhide H1) ?_
    rintro e w1 ⟨rfl, b1⟩
    have H3 := hide (unhide H2 w1 b1)
    have HB1 := hide b1
    clear b1 H1 H2
    unfold Ed.szVal
    cases hsz : Ed.sizeL l with
    | none =>
      go_wp2_with fail
      refine Calls.mono (unhide H3) ?_
      rintro e w2 ⟨rfl, b2⟩
      have HB2 := hide ((unhide HB1).trans (b2.mono (unhide HB1).size))
      clear b2 H3
      unfold Ed.wVal
      cases hw : Ed.wL l with
      | none =>
        go_wp2_with fail
        go_ret
        exact ⟨by unfold lightB; rw [hsz]; simp, unhide HB2⟩
      | some q =>
        obtain ⟨p, d⟩ := q
        go_wp2_with fail
        go_ret
        exact ⟨by unfold lightB; rw [hsz]; simp, unhide HB2⟩
    | some q =>
      obtain ⟨f, t, kk⟩ := q
      go_wp2_with fail
      refine Calls.mono (unhide H3) ?_
      rintro e w2 ⟨rfl, b2⟩
      have HB2 := hide ((unhide HB1).trans (b2.mono (unhide HB1).size))
      clear b2 H3
      unfold Ed.wVal
      cases hw : Ed.wL l with
      | none =>
        go_wp2_with fail
        go_ret
        exact ⟨by have := unhide HN; unfold lightB putsP; rw [hsz, hw, this]; simp [h4], unhide HB2⟩
      | some q =>
        obtain ⟨p, d⟩ := q
        go_wp2_with fail
        go_ret
        exact ⟨by have := unhide HN; unfold lightB putsP; rw [hsz, hw, this]; simp [h4], unhide HB2⟩
  · have h4z : (400 : Int) < (n : Int) := by omega
    go_enter Tryd.func12, Tryd.ntmps12
    go_wp2_with fail
    go_ret
    exact ⟨by have := unhide HN; unfold lightB; rw [this]; simp [h4], Below.refl _ _⟩

def nsF (x0 x1 x2 x3 x4 x5 x6 : Int) : Nat → Int
  | 0 => x0
  | 1 => x1
  | 2 => x2
  | 3 => x3
  | 4 => x4
  | 5 => x5
  | _ => x6
/-- how great a number of a message of this kind may be -/
def limN (k i : Nat) : Int := if fieldsL.getD k 0 / 2 ^ i % 2 = 1 then (mostL.getD i 0 : Nat) else 0
def hasE (k : Nat) : Bool := fieldsL.getD k 0 / 128 % 2 == 1
def MsgOk (k : Int) (ns : Nat → Int) (l : List Ed.Pt) : Prop := 1 ≤ k ∧ k ≤ 10 ∧ (∀ i, i < 7 → 0 ≤ ns i ∧ ns i ≤ limN k.toNat i) ∧ (hasE k.toNat = true ∨ l.length = 0) ∧ lightB l = true
def msgV (k x0 x1 x2 x3 x4 x5 x6 : Int) (v : Value) : Value := .agg #[.int .i64 k, .int .i64 x0, .int .i64 x1, .int .i64 x2, .int .i64 x3, .int .i64 x4, .int .i64 x5, .int .i64 x6, v]
theorem idx7x (x0 x1 x2 x3 x4 x5 x6 : Int) (j : Nat) (w : World) (h7 : j < 7) : (Instr.index 50 (.agg #[.int .i64 x0, .int .i64 x1, .int .i64 x2, .int .i64 x3, .int .i64 x4, .int .i64 x5, .int .i64 x6]) (.int .i64 (j : Int))).run Tryd.prog w = .ok (.int .i64 (nsF x0 x1 x2 x3 x4 x5 x6 j)) w := by
  have : j = 0 ∨ j = 1 ∨ j = 2 ∨ j = 3 ∨ j = 4 ∨ j = 5 ∨ j = 6 := by omega
  rcases this with rfl | rfl | rfl | rfl | rfl | rfl | rfl <;>
    simp [Instr.index, run_underlying Tryd.underlying50, asIntOf, part, go_sem, nsF]
theorem fld_lt (k : Nat) (h : k ≤ 10) : fieldsL.getD k 0 < 256 := by
  have : ∀ k, k < 11 → fieldsL.getD k 0 < 256 := by decide
  exact this k (by omega)
theorem bit_and (x : Nat) (h : x < 256) : bits .and .i64 (x : Int) 1 = ((x % 2 : Nat) : Int) := by
  have : ∀ x, x < 256 → bits .and .i64 ((x : Nat) : Int) 1 = ((x % 2 : Nat) : Int) := by decide +kernel
  exact this x h
theorem bit_128 (x : Nat) (h : x < 256) : bits .and .i64 (x : Int) 128 = (if x / 128 % 2 = 1 then 128 else 0) := by
  have : ∀ x, x < 256 → bits .and .i64 ((x : Nat) : Int) 128 = (if x / 128 % 2 = 1 then 128 else 0) := by decide +kernel
  exact this x h
def CkR (k : Int) (ns : Nat → Int) (l : List Ed.Pt) (w : World) (e : Ending) (w' : World) : Prop := ∃ z : Int, e = .returned (.int .i64 z) ∧ (z = 0 ∨ z = 120) ∧ (z = 0 ↔ MsgOk k ns l) ∧ Below w.heap.size w w'
theorem CkR.no {k : Int} {ns : Nat → Int} {l : List Ed.Pt} {w w' : World} (h : ¬ MsgOk k ns l) (hb : Below w.heap.size w w') : CkR k ns l w (.returned (.int .i64 120)) w' := ⟨120, rfl, .inr rfl, ⟨fun h0 => by omega, fun h1 => absurd h1 h⟩, hb⟩
theorem CkR.yes {k : Int} {ns : Nat → Int} {l : List Ed.Pt} {w w' : World} (h : MsgOk k ns l) (hb : Below w.heap.size w w') : CkR k ns l w (.returned (.int .i64 0)) w' := ⟨0, rfl, .inl rfl, ⟨fun _ => h, fun _ => rfl⟩, hb⟩
set_option maxRecDepth 100000 in
set_option maxHeartbeats 8000000 in
theorem check_any (k x0 x1 x2 x3 x4 x5 x6 : Int) (a : Option Addr) (l : List Ed.Pt) (c : Nat) (w : World) (hF : FTab w) (hM : MTab w) (hT : Ed.UT w) (hp : Ed.PtsAt w a l) (hc : l.length ≤ 4000) (hs : ∀ p ∈ l, p.text.size ≤ 281474976710656) :
    Calls Tryd.prog 10 #[msgV k x0 x1 x2 x3 x4 x5 x6 (.slice a l.length c)] w fun e w' => CkR k (nsF x0 x1 x2 x3 x4 x5 x6) l w e w' := by
  obtain ⟨n, hn⟩ : ∃ n, l.length = n := ⟨_, rfl⟩
  have HL : Hid (∀ w1, Below w.heap.size w w1 → Calls Tryd.prog 12 #[.slice a l.length c] w1 fun r w' => r = .returned (.bool (lightB l)) ∧ Below w1.heap.size w1 w') := hide (fun w1 hb => flight_any a l c w1 (hT.call hb) (hp.call hb) hc hs)
  rw [hn] at HL ⊢
  have HN := hide hn
  clear hT hp hs hn hc
  have b1 : Below w.heap.size w (w.alloc (.cells #[.int .i64 k, .int .i64 x0, .int .i64 x1, .int .i64 x2, .int .i64 x3, .int .i64 x4, .int .i64 x5, .int .i64 x6, .slice a n c] 25)) := (Below.refl _ _).alloc (Nat.le_refl _) _
  have HR := hide (RowAt.new w 25 [.int .i64 k, .int .i64 x0, .int .i64 x1, .int .i64 x2, .int .i64 x3, .int .i64 x4, .int .i64 x5, .int .i64 x6, .slice a n c])
  have hF1 := Tab.below hF b1 hF.lt
  have hM1 := Tab.below hM b1 hM.lt
  have HB1 := hide b1
  unfold msgV
  clear hF hM b1
  by_cases hk1 : k < 1
  · have HNO : Hid (¬ MsgOk k (nsF x0 x1 x2 x3 x4 x5 x6) l) := hide (fun h => by have := h.1; omega)
    have c0 : (w.alloc (.cells #[.int .i64 k, .int .i64 x0, .int .i64 x1, .int .i64 x2, .int .i64 x3, .int .i64 x4, .int .i64 x5, .int .i64 x6, .slice a n c] 25)).cell? ⟨w.heap.size, 0, none⟩ = some (.int .i64 k) := (unhide HR).cell 0
    have c1 : (w.alloc (.cells #[.int .i64 k, .int .i64 x0, .int .i64 x1, .int .i64 x2, .int .i64 x3, .int .i64 x4, .int .i64 x5, .int .i64 x6, .slice a n c] 25)).cell? ⟨w.heap.size, 1, none⟩ = some (.int .i64 x0) := (unhide HR).cell 1
    have c2 : (w.alloc (.cells #[.int .i64 k, .int .i64 x0, .int .i64 x1, .int .i64 x2, .int .i64 x3, .int .i64 x4, .int .i64 x5, .int .i64 x6, .slice a n c] 25)).cell? ⟨w.heap.size, 2, none⟩ = some (.int .i64 x1) := (unhide HR).cell 2
    have c3 : (w.alloc (.cells #[.int .i64 k, .int .i64 x0, .int .i64 x1, .int .i64 x2, .int .i64 x3, .int .i64 x4, .int .i64 x5, .int .i64 x6, .slice a n c] 25)).cell? ⟨w.heap.size, 3, none⟩ = some (.int .i64 x2) := (unhide HR).cell 3
    have c4 : (w.alloc (.cells #[.int .i64 k, .int .i64 x0, .int .i64 x1, .int .i64 x2, .int .i64 x3, .int .i64 x4, .int .i64 x5, .int .i64 x6, .slice a n c] 25)).cell? ⟨w.heap.size, 4, none⟩ = some (.int .i64 x3) := (unhide HR).cell 4
    have c5 : (w.alloc (.cells #[.int .i64 k, .int .i64 x0, .int .i64 x1, .int .i64 x2, .int .i64 x3, .int .i64 x4, .int .i64 x5, .int .i64 x6, .slice a n c] 25)).cell? ⟨w.heap.size, 5, none⟩ = some (.int .i64 x4) := (unhide HR).cell 5
    have c6 : (w.alloc (.cells #[.int .i64 k, .int .i64 x0, .int .i64 x1, .int .i64 x2, .int .i64 x3, .int .i64 x4, .int .i64 x5, .int .i64 x6, .slice a n c] 25)).cell? ⟨w.heap.size, 6, none⟩ = some (.int .i64 x5) := (unhide HR).cell 6
    have c7 : (w.alloc (.cells #[.int .i64 k, .int .i64 x0, .int .i64 x1, .int .i64 x2, .int .i64 x3, .int .i64 x4, .int .i64 x5, .int .i64 x6, .slice a n c] 25)).cell? ⟨w.heap.size, 7, none⟩ = some (.int .i64 x6) := (unhide HR).cell 7
    have c8 : (w.alloc (.cells #[.int .i64 k, .int .i64 x0, .int .i64 x1, .int .i64 x2, .int .i64 x3, .int .i64 x4, .int .i64 x5, .int .i64 x6, .slice a n c] 25)).cell? ⟨w.heap.size, 8, none⟩ = some (.slice a n c) := (unhide HR).cell 8
    go_enter Tryd.func10, Tryd.ntmps10
    go_wp2_with fail
    go_ret
    exact CkR.no (unhide HNO) (unhide HB1)
  have hk1d : decide (k < 1) = false := by simpa using hk1
  by_cases hk2 : 10 < k
  · have HNO : Hid (¬ MsgOk k (nsF x0 x1 x2 x3 x4 x5 x6) l) := hide (fun h => by have := h.2.1; omega)
    have c0 : (w.alloc (.cells #[.int .i64 k, .int .i64 x0, .int .i64 x1, .int .i64 x2, .int .i64 x3, .int .i64 x4, .int .i64 x5, .int .i64 x6, .slice a n c] 25)).cell? ⟨w.heap.size, 0, none⟩ = some (.int .i64 k) := (unhide HR).cell 0
    have c1 : (w.alloc (.cells #[.int .i64 k, .int .i64 x0, .int .i64 x1, .int .i64 x2, .int .i64 x3, .int .i64 x4, .int .i64 x5, .int .i64 x6, .slice a n c] 25)).cell? ⟨w.heap.size, 1, none⟩ = some (.int .i64 x0) := (unhide HR).cell 1
    have c2 : (w.alloc (.cells #[.int .i64 k, .int .i64 x0, .int .i64 x1, .int .i64 x2, .int .i64 x3, .int .i64 x4, .int .i64 x5, .int .i64 x6, .slice a n c] 25)).cell? ⟨w.heap.size, 2, none⟩ = some (.int .i64 x1) := (unhide HR).cell 2
    have c3 : (w.alloc (.cells #[.int .i64 k, .int .i64 x0, .int .i64 x1, .int .i64 x2, .int .i64 x3, .int .i64 x4, .int .i64 x5, .int .i64 x6, .slice a n c] 25)).cell? ⟨w.heap.size, 3, none⟩ = some (.int .i64 x2) := (unhide HR).cell 3
    have c4 : (w.alloc (.cells #[.int .i64 k, .int .i64 x0, .int .i64 x1, .int .i64 x2, .int .i64 x3, .int .i64 x4, .int .i64 x5, .int .i64 x6, .slice a n c] 25)).cell? ⟨w.heap.size, 4, none⟩ = some (.int .i64 x3) := (unhide HR).cell 4
    have c5 : (w.alloc (.cells #[.int .i64 k, .int .i64 x0, .int .i64 x1, .int .i64 x2, .int .i64 x3, .int .i64 x4, .int .i64 x5, .int .i64 x6, .slice a n c] 25)).cell? ⟨w.heap.size, 5, none⟩ = some (.int .i64 x4) := (unhide HR).cell 5
    have c6 : (w.alloc (.cells #[.int .i64 k, .int .i64 x0, .int .i64 x1, .int .i64 x2, .int .i64 x3, .int .i64 x4, .int .i64 x5, .int .i64 x6, .slice a n c] 25)).cell? ⟨w.heap.size, 6, none⟩ = some (.int .i64 x5) := (unhide HR).cell 6
    have c7 : (w.alloc (.cells #[.int .i64 k, .int .i64 x0, .int .i64 x1, .int .i64 x2, .int .i64 x3, .int .i64 x4, .int .i64 x5, .int .i64 x6, .slice a n c] 25)).cell? ⟨w.heap.size, 7, none⟩ = some (.int .i64 x6) := (unhide HR).cell 7
    have c8 : (w.alloc (.cells #[.int .i64 k, .int .i64 x0, .int .i64 x1, .int .i64 x2, .int .i64 x3, .int .i64 x4, .int .i64 x5, .int .i64 x6, .slice a n c] 25)).cell? ⟨w.heap.size, 8, none⟩ = some (.slice a n c) := (unhide HR).cell 8
    go_enter Tryd.func10, Tryd.ntmps10
    go_wp2_with fail
    go_ret
    exact CkR.no (unhide HNO) (unhide HB1)
  have hk2d : decide (10 < k) = false := by simpa using hk2
  obtain ⟨kn, rfl⟩ : ∃ kn : Nat, k = (kn : Int) := ⟨k.toNat, by omega⟩
  obtain ⟨t1, fr1, hF2⟩ := hF1
  obtain ⟨t2, fr2, hM2⟩ := hM1
  obtain ⟨hv, hhv⟩ : ∃ hv, fieldsL.getD kn 0 = hv := ⟨_, rfl⟩
  have hvl : hv < 256 := by rw [← hhv]; exact fld_lt kn (by omega)
  have c0 : (w.alloc (.cells #[.int .i64 (kn : Int), .int .i64 x0, .int .i64 x1, .int .i64 x2, .int .i64 x3, .int .i64 x4, .int .i64 x5, .int .i64 x6, .slice a n c] 25)).cell? ⟨w.heap.size, 0, none⟩ = some (.int .i64 (kn : Int)) := (unhide HR).cell 0
  have c1 : (w.alloc (.cells #[.int .i64 (kn : Int), .int .i64 x0, .int .i64 x1, .int .i64 x2, .int .i64 x3, .int .i64 x4, .int .i64 x5, .int .i64 x6, .slice a n c] 25)).cell? ⟨w.heap.size, 1, none⟩ = some (.int .i64 x0) := (unhide HR).cell 1
  have c2 : (w.alloc (.cells #[.int .i64 (kn : Int), .int .i64 x0, .int .i64 x1, .int .i64 x2, .int .i64 x3, .int .i64 x4, .int .i64 x5, .int .i64 x6, .slice a n c] 25)).cell? ⟨w.heap.size, 2, none⟩ = some (.int .i64 x1) := (unhide HR).cell 2
  have c3 : (w.alloc (.cells #[.int .i64 (kn : Int), .int .i64 x0, .int .i64 x1, .int .i64 x2, .int .i64 x3, .int .i64 x4, .int .i64 x5, .int .i64 x6, .slice a n c] 25)).cell? ⟨w.heap.size, 3, none⟩ = some (.int .i64 x2) := (unhide HR).cell 3
  have c4 : (w.alloc (.cells #[.int .i64 (kn : Int), .int .i64 x0, .int .i64 x1, .int .i64 x2, .int .i64 x3, .int .i64 x4, .int .i64 x5, .int .i64 x6, .slice a n c] 25)).cell? ⟨w.heap.size, 4, none⟩ = some (.int .i64 x3) := (unhide HR).cell 4
  have c5 : (w.alloc (.cells #[.int .i64 (kn : Int), .int .i64 x0, .int .i64 x1, .int .i64 x2, .int .i64 x3, .int .i64 x4, .int .i64 x5, .int .i64 x6, .slice a n c] 25)).cell? ⟨w.heap.size, 5, none⟩ = some (.int .i64 x4) := (unhide HR).cell 5
  have c6 : (w.alloc (.cells #[.int .i64 (kn : Int), .int .i64 x0, .int .i64 x1, .int .i64 x2, .int .i64 x3, .int .i64 x4, .int .i64 x5, .int .i64 x6, .slice a n c] 25)).cell? ⟨w.heap.size, 6, none⟩ = some (.int .i64 x5) := (unhide HR).cell 6
  have c7 : (w.alloc (.cells #[.int .i64 (kn : Int), .int .i64 x0, .int .i64 x1, .int .i64 x2, .int .i64 x3, .int .i64 x4, .int .i64 x5, .int .i64 x6, .slice a n c] 25)).cell? ⟨w.heap.size, 7, none⟩ = some (.int .i64 x6) := (unhide HR).cell 7
  have c8 : (w.alloc (.cells #[.int .i64 (kn : Int), .int .i64 x0, .int .i64 x1, .int .i64 x2, .int .i64 x3, .int .i64 x4, .int .i64 x5, .int .i64 x6, .slice a n c] 25)).cell? ⟨w.heap.size, 8, none⟩ = some (.slice a n c) := (unhide HR).cell 8
  have cF : (w.alloc (.cells #[.int .i64 (kn : Int), .int .i64 x0, .int .i64 x1, .int .i64 x2, .int .i64 x3, .int .i64 x4, .int .i64 x5, .int .i64 x6, .slice a n c] 25)).cell? ⟨0, kn, none⟩ = some (.int .i64 (hv : Int)) := by
    unfold World.cell?
    rw [hF2, ← hhv]
    have : kn = 1 ∨ kn = 2 ∨ kn = 3 ∨ kn = 4 ∨ kn = 5 ∨ kn = 6 ∨ kn = 7 ∨ kn = 8 ∨ kn = 9 ∨ kn = 10 := by omega
    rcases this with rfl | rfl | rfl | rfl | rfl | rfl | rfl | rfl | rfl | rfl <;> rfl
  have HMC : Hid (∀ j, j < 7 → (w.alloc (.cells #[.int .i64 (kn : Int), .int .i64 x0, .int .i64 x1, .int .i64 x2, .int .i64 x3, .int .i64 x4, .int .i64 x5, .int .i64 x6, .slice a n c] 25)).cell? ⟨1, j, none⟩ = some (.int .i64 ((mostL.getD j 0 : Nat) : Int))) := hide (fun j hj => by
    unfold World.cell?
    rw [hM2]
    have : j = 0 ∨ j = 1 ∨ j = 2 ∨ j = 3 ∨ j = 4 ∨ j = 5 ∨ j = 6 := by omega
    rcases this with rfl | rfl | rfl | rfl | rfl | rfl | rfl <;> rfl)
  clear hF2 hM2
  have kz1 : ¬ ((kn : Int) < 1) := by omega
  have kz2 : ¬ ((10 : Int) < (kn : Int)) := by omega
  have kz3 : (kn : Int) < 11 := by omega
  go_enter Tryd.func10, Tryd.ntmps10
  go_wp2_with fail
  generalize w.alloc (.cells #[.int .i64 (kn : Int), .int .i64 x0, .int .i64 x1, .int .i64 x2, .int .i64 x3, .int .i64 x4, .int .i64 x5, .int .i64 x6, .slice a n c] 25) = w1 at *
  go_loopw [34] (fun s wr => ∃ j : Nat, j ≤ 7 ∧ s = .int .i64 (j : Int) ∧ w1 = wr ∧ Hid (∀ i, i < j → 0 ≤ nsF x0 x1 x2 x3 x4 x5 x6 i ∧ nsF x0 x1 x2 x3 x4 x5 x6 i ≤ limN kn i)) (fun s _ => (7 - intOf s).toNat)
  case atStart => exact ⟨0, by omega, rfl, rfl, hide (fun i hi => by omega)⟩
  case round =>
    obtain ⟨j, hj, rfl, rfl, HI⟩ := hrel
    by_cases hlt : j < 7
    · have hjI : (j : Int) < 7 := by omega
      have hj0 : (0 : Int) ≤ (j : Int) := by omega
      have hix := idx7x x0 x1 x2 x3 x4 x5 x6 j w1 hlt
      have hx : hv / 2 ^ j < 256 := Nat.lt_of_le_of_lt (Nat.div_le_self _ _) hvl
      have hcast : ((hv : Int) / 2 ^ j) = ((hv / 2 ^ j : Nat) : Int) := by simp
      by_cases hbit : hv / 2 ^ j % 2 = 1
      · have hba : bits .and .i64 ((hv : Int) / 2 ^ j) 1 = 1 := by rw [hcast, bit_and _ hx, hbit]; rfl
        obtain ⟨mj, hmj⟩ : ∃ mj, mostL.getD j 0 = mj := ⟨_, rfl⟩
        have cM := unhide HMC j hlt
        rw [hmj] at cM
        have HLM : Hid (limN kn j = (mj : Int)) := hide (by unfold limN; rw [hhv, if_pos hbit, hmj])
        clear hx hcast hbit hmj
        by_cases hin : 0 ≤ nsF x0 x1 x2 x3 x4 x5 x6 j ∧ nsF x0 x1 x2 x3 x4 x5 x6 j ≤ (mj : Int)
        · have HIN := hide hin
          clear hin
          go_wp2_with fail
          refine Calls.mono (within_in _ 0 (mj : Int) _ (unhide HIN).1 (unhide HIN).2) ?_
          rintro e wx ⟨rfl, rfl⟩
          go_wp2_with fail
          go_roundw
          case rel => exact ⟨j + 1, by omega, by go_num, by first | trivial | rfl, hide (fun i hi => by
            by_cases h : i = j
            · subst h; rw [unhide HLM]; exact unhide HIN
            · exact unhide HI i (by omega))⟩
          case measure => simp [intOf]; omega
        · have HNO : Hid (¬ MsgOk (kn : Int) (nsF x0 x1 x2 x3 x4 x5 x6) l) := hide (fun h => hin (by have := h.2.2.1 j hlt; rw [Int.toNat_natCast, unhide HLM] at this; exact this))
          have HIN := hide hin
          clear hin
          go_wp2_with fail
          refine Calls.mono (within_out _ 0 (mj : Int) _ (unhide HIN)) ?_
          rintro e wx ⟨rfl, rfl⟩
          go_wp2_with fail
          go_ret
          exact CkR.no (unhide HNO) (unhide HB1)
      · have hba : bits .and .i64 ((hv : Int) / 2 ^ j) 1 = 0 := by rw [hcast, bit_and _ hx, show hv / 2 ^ j % 2 = 0 by omega]; rfl
        have HLM : Hid (limN kn j = 0) := hide (by unfold limN; rw [hhv, if_neg hbit])
        clear hx hcast hbit
        by_cases hin : 0 ≤ nsF x0 x1 x2 x3 x4 x5 x6 j ∧ nsF x0 x1 x2 x3 x4 x5 x6 j ≤ 0
        · have HIN := hide hin
          clear hin
          go_wp2_with fail
          refine Calls.mono (within_in _ 0 0 _ (unhide HIN).1 (unhide HIN).2) ?_
          rintro e wx ⟨rfl, rfl⟩
          go_wp2_with fail
          go_roundw
          case rel => exact ⟨j + 1, by omega, by go_num, by first | trivial | rfl, hide (fun i hi => by
            by_cases h : i = j
            · subst h; rw [unhide HLM]; exact unhide HIN
            · exact unhide HI i (by omega))⟩
          case measure => simp [intOf]; omega
        · have HNO : Hid (¬ MsgOk (kn : Int) (nsF x0 x1 x2 x3 x4 x5 x6) l) := hide (fun h => hin (by have := h.2.2.1 j hlt; rw [Int.toNat_natCast, unhide HLM] at this; exact this))
          have HIN := hide hin
          clear hin
          go_wp2_with fail
          refine Calls.mono (within_out _ 0 0 _ (unhide HIN)) ?_
          rintro e wx ⟨rfl, rfl⟩
          go_wp2_with fail
          go_ret
          exact CkR.no (unhide HNO) (unhide HB1)
    · obtain rfl : j = 7 := by omega
      have hjI : ¬ ((7 : Nat) : Int) < 7 := by omega
      have h128 := bit_128 hv hvl
      have HHE : Hid (hasE kn = (hv / 128 % 2 == 1)) := hide (by unfold hasE; rw [hhv])
      by_cases he : hv / 128 % 2 = 1
      · rw [if_pos he] at h128
        have HE := hide he
        clear he
        go_wp2_with fail
        refine Calls.mono (unhide HL w1 (unhide HB1)) ?_
        rintro e w2 ⟨rfl, b2⟩
        have HB2 := hide ((unhide HB1).trans (b2.mono (unhide HB1).size))
        clear b2
        cases hlb : lightB l with
        | false =>
          have HNO : Hid (¬ MsgOk (kn : Int) (nsF x0 x1 x2 x3 x4 x5 x6) l) := hide (fun h => by have := h.2.2.2.2; rw [hlb] at this; cases this)
          go_wp2_with fail
          go_ret
          exact CkR.no (unhide HNO) (unhide HB2)
        | true =>
          have HYE : Hid (MsgOk (kn : Int) (nsF x0 x1 x2 x3 x4 x5 x6) l) := hide ⟨by omega, by omega, fun i hi => by rw [Int.toNat_natCast]; exact unhide HI i hi, .inl (by rw [Int.toNat_natCast, unhide HHE, unhide HE]; rfl), hlb⟩
          go_wp2_with fail
          go_ret
          exact CkR.yes (unhide HYE) (unhide HB2)
      · rw [if_neg he] at h128
        have HE := hide he
        clear he
        by_cases h0 : n = 0
        · subst h0
          have nz : ¬ (0 : Int) < ((0 : Nat) : Int) := by omega
          go_wp2_with fail
          refine Calls.mono (unhide HL w1 (unhide HB1)) ?_
          rintro e w2 ⟨rfl, b2⟩
          have HB2 := hide ((unhide HB1).trans (b2.mono (unhide HB1).size))
          clear b2
          cases hlb : lightB l with
          | false =>
            have HNO : Hid (¬ MsgOk (kn : Int) (nsF x0 x1 x2 x3 x4 x5 x6) l) := hide (fun h => by have := h.2.2.2.2; rw [hlb] at this; cases this)
            go_wp2_with fail
            go_ret
            exact CkR.no (unhide HNO) (unhide HB2)
          | true =>
            have HYE : Hid (MsgOk (kn : Int) (nsF x0 x1 x2 x3 x4 x5 x6) l) := hide ⟨by omega, by omega, fun i hi => by rw [Int.toNat_natCast]; exact unhide HI i hi, .inr (unhide HN), hlb⟩
            go_wp2_with fail
            go_ret
            exact CkR.yes (unhide HYE) (unhide HB2)
        · have nz : (0 : Int) < (n : Int) := by omega
          have HNO : Hid (¬ MsgOk (kn : Int) (nsF x0 x1 x2 x3 x4 x5 x6) l) := hide (fun h => by
            rcases h.2.2.2.1 with h | h
            · rw [Int.toNat_natCast, unhide HHE] at h; exact unhide HE (by simpa using h)
            · have := unhide HN; omega)
          go_wp2_with fail
          go_ret
          exact CkR.no (unhide HNO) (unhide HB1)
end Go.Proofs.YtbnfilhilgjnfaaDoor
