/- Parts of the walk: Rep, Siz, Atm, Prt, Prn. -/
import Derived.Test.YtonabfpgdgnpnaaDoorMz01
import Derived.Test.YtonabfpgdgnpnaaDoorMz00
namespace Go.Proofs.YtonabfpgdgnpnaaDoor
set_option linter.unusedVariables false
set_option linter.unusedSimpArgs false
open Go.ChangeShapes Go.WideShapes Go.ChangeAt Go.RowKit Go.Joins Go.Deep

theorem Cps.len {cs : List (List UInt8)} (h : Cps cs) : cs.length ≤ cs.flatten.length := by
  induction cs with
  | nil => simp
  | cons c cs ih =>
    have h1 := List.length_pos_iff.2 h.head.ne
    have h2 := ih h.tail
    simp only [List.length_cons, List.flatten_cons, List.length_append]
    omega
theorem Cp.four {c : List UInt8} (h : Cp c) : c.length ≤ 4 := by
  rw [← h.all, Lib.decodeL_N]
  unfold Lib.decodeN
  repeat' split
  all_goals simp
theorem Cps.most {cs : List (List UInt8)} (h : Cps cs) : cs.flatten.length ≤ 4 * cs.length := by
  induction cs with
  | nil => simp
  | cons c cs ih =>
    have h1 := h.head.four
    have h2 := ih h.tail
    simp only [List.length_cons, List.flatten_cons, List.length_append]
    omega
/-- these parts are an own row -/
def OwnP (w : World) (B : Nat) (v : Value) (l : List Pt) : Prop := w.ownsRow B 39 3 v l.length (ptc l)
theorem OwnP.call {w w' : World} {B : Nat} {v : Value} {l : List Pt} (h : OwnP w B v l) (hb : Below w.heap.size w w') : OwnP w' B v l := own_call h hb
theorem OwnP.nil (w : World) (B : Nat) : OwnP w B (.slice none 0 0) [] := World.ownsRow_nil _ _ _ _
theorem OwnP.slice {w : World} {B : Nat} {v : Value} {l : List Pt} (h : OwnP w B v l) : ∃ a c, v = .slice a l.length c ∧ PtsAt w a l ∧ l.length ≤ c ∧ c ≤ maxLen := by
  rcases h.2 with ⟨rfl, h0⟩ | ⟨g, cap, cur, rfl, h1, h2, h3, h4, h5, h6⟩
  · exact ⟨none, 0, by rw [h0], .inl (List.length_eq_zero_iff.1 h0), by omega, by unfold maxLen; omega⟩
  · refine ⟨_, _, rfl, ?_, h3, h4⟩
    by_cases hl : l = []
    · exact .inl hl
    · refine .inr ⟨g, 0, rfl, (Array.getElem?_eq_some_iff.1 h2).1, fun i p hp => ?_⟩
      obtain ⟨q0, q1, q2⟩ := ptc_at l i p hp
      have hc : ∀ j u, (ptc l)[j]? = some u → w.cell? ⟨g, j, none⟩ = some u := fun j u hu => by
        have := World.ownsRow.cells h (g := g) rfl j u hu
        simpa [Addr.add_lit] using this
      rw [Nat.zero_add]
      exact ⟨hc _ _ q0, hc _ _ q1, hc _ _ q2⟩
theorem own_base {w : World} {b b' s n : Nat} {e : TypeId} {v : Value} {xs : List Value} (h : w.ownsRow b e s v n xs) (hb : b' ≤ b) : w.ownsRow b' e s v n xs := by
  obtain ⟨h1, h2⟩ := h
  refine ⟨h1, ?_⟩
  rcases h2 with h2 | ⟨g, cap, cur, e1, e2, e3⟩
  · exact .inl h2
  · exact .inr ⟨g, cap, cur, e1, Nat.le_trans hb e2, e3⟩
theorem row_pts {w : World} {g : Nat} {l : List Pt} (h : RowAt w g 39 (ptc l)) : PtsAt w (some ⟨g, 0, none⟩) l := by
  refine .inr ⟨g, 0, rfl, h.lt, fun i p hp => ?_⟩
  obtain ⟨q0, q1, q2⟩ := ptc_at l i p hp
  rw [Nat.zero_add, h.cell, h.cell, h.cell]
  exact ⟨q0, q1, q2⟩
end Go.Proofs.YtonabfpgdgnpnaaDoor

namespace Go.Proofs.YtonabfpgdgnpnaaDoor
set_option linter.unusedVariables false
set_option linter.unusedSimpArgs false
open Go.ChangeShapes Go.WideShapes Go.ChangeAt Go.RowKit Go.Joins Go.Deep

def followsB (k l : Int) : Bool := decide (k ≠ l) && !(decide (k = 2) && decide (l = 3))
/-- from, to, the last part's kind: of the parts so far; none: they are no edit -/
def sizeStep (st : Option (Int × Int × Int)) (p : Pt) : Option (Int × Int × Int) := match st with
  | none => none
  | some (f, t, k) =>
    if fitsB p = true ∧ followsB p.kind k = true then
      (let f' := if p.kind = 2 then f else f + p.n
       let t' := if p.kind = 3 then t else t + p.n
       if 1099511627776 < f' ∨ 1099511627776 < t' then none else some (f', t', p.kind))
    else none
def sizeL (l : List Pt) : Option (Int × Int × Int) := l.foldl sizeStep (some (0, 0, 0))
theorem sizeL_take {l : List Pt} {i : Nat} {p : Pt} (h : l[i]? = some p) : sizeL (l.take (i + 1)) = sizeStep (sizeL (l.take i)) p := by
  unfold sizeL
  rw [List.take_add_one, h, List.foldl_append]
  rfl
theorem sizeL_none {l : List Pt} {i : Nat} (h : sizeL (l.take i) = none) : sizeL l = none := by
  have e : l = l.take i ++ l.drop i := (List.take_append_drop i l).symm
  have : ∀ (m : List Pt), m.foldl sizeStep none = none := by
    intro m
    induction m with
    | nil => rfl
    | cons p m ih => exact ih
  unfold sizeL at h ⊢
  rw [e, List.foldl_append, h, this]
theorem fits_bounds {p : Pt} (h : fitsB p = true) : 1 ≤ p.n ∧ p.n ≤ 1099511627776 := by
  unfold fitsB at h
  simp only [Bool.and_eq_true, decide_eq_true_eq] at h
  exact ⟨h.1.1, h.1.2⟩
theorem sizeL_bounds (l : List Pt) : ∀ f t k, sizeL l = some (f, t, k) → 0 ≤ f ∧ f ≤ 1099511627776 ∧ 0 ≤ t ∧ t ≤ 1099511627776 := by
  have : ∀ (m : List Pt) (st : Option (Int × Int × Int)), (∀ f t k, st = some (f, t, k) → 0 ≤ f ∧ f ≤ 1099511627776 ∧ 0 ≤ t ∧ t ≤ 1099511627776) → ∀ f t k, m.foldl sizeStep st = some (f, t, k) → 0 ≤ f ∧ f ≤ 1099511627776 ∧ 0 ≤ t ∧ t ≤ 1099511627776 := by
    intro m
    induction m with
    | nil => intro st h; exact h
    | cons p m ih =>
      intro st h
      refine ih _ ?_
      intro f t k e
      match st, h with
      | none, _ => cases e
      | some (f0, t0, k0), h =>
        obtain ⟨a1, a2, a3, a4⟩ := h f0 t0 k0 rfl
        simp only [sizeStep] at e
        by_cases hfit : fitsB p = true ∧ followsB p.kind k0 = true
        · rw [if_pos hfit] at e
          have hb := fits_bounds hfit.1
          by_cases hlim : 1099511627776 < (if p.kind = 2 then f0 else f0 + p.n) ∨ 1099511627776 < (if p.kind = 3 then t0 else t0 + p.n)
          · rw [if_pos hlim] at e; cases e
          · rw [if_neg hlim] at e
            simp only [Option.some.injEq, Prod.mk.injEq] at e
            obtain ⟨rfl, rfl, rfl⟩ := e
            refine ⟨?_, by omega, ?_, by omega⟩ <;> split <;> omega
        · rw [if_neg hfit] at e; cases e
  exact this l (some (0, 0, 0)) (fun f t k e => by simp at e; omega)
def szVal (l : List Pt) : Value := match sizeL l with
  | none => .tuple #[.int .i64 0, .int .i64 0, .int .i64 30]
  | some (f, t, _) => .tuple #[.int .i64 f, .int .i64 t, .int .i64 0]
set_option maxRecDepth 100000 in
set_option maxHeartbeats 4000000 in
theorem size_any (a : Option Addr) (l : List Pt) (c : Nat) (w : World) (hT : UT w) (hp : PtsAt w a l) (hc : l.length ≤ maxLen) (hs : ∀ p ∈ l, p.text.size ≤ 281474976710656) :
    Calls Tryd.prog 62 #[.slice a l.length c] w fun r w' => r = .returned (szVal l) ∧ Below w.heap.size w w' := by
  have HT := hide hT
  have HP := hide hp
  have HS := hide hs
  obtain ⟨n, hn⟩ : ∃ n, l.length = n := ⟨_, rfl⟩
  rw [hn] at hc ⊢
  have HN := hide hn
  have nI : (n : Int) ≤ 9223372036854775807 := by unfold maxLen at hc; omega
  clear hT hp hs hn
  go_enter Tryd.func62, Tryd.ntmps62
  go_wp2_with fail
  go_loopw [2, 3, 5, 10] (fun f t la i wr => ∃ k : Nat, k ≤ n ∧ i = .int .i64 (k : Int) ∧ (∃ fv tv lv : Int, f = .int .i64 fv ∧ t = .int .i64 tv ∧ la = .int .i64 lv ∧ Hid (sizeL (l.take k) = some (fv, tv, lv))) ∧ Hid (Below w.heap.size w wr)) (fun _ _ _ i _ => ((n : Int) - intOf i).toNat)
  case atStart => exact ⟨0, by omega, by simp, ⟨0, 0, 0, by simp, by simp, by simp, hide (by simp [sizeL])⟩, hide (Below.refl _ _)⟩
  case round =>
    obtain ⟨k, hk, rfl, ⟨fv, tv, lv, rfl, rfl, rfl, HSZ⟩, HB⟩ := hrel
    by_cases hlt : k < n
    · have kI : (k : Int) < (n : Int) := by omega
      obtain ⟨p, hpk⟩ : ∃ p, l[k]? = some p := ⟨_, List.getElem?_eq_getElem (by have := unhide HN; omega)⟩
      obtain ⟨b, off, rfl, e0, e1, e2⟩ := (unhide HP).at_ (unhide HB) hpk
      have HST := hide (sizeL_take hpk)
      rw [unhide HSZ] at HST
      obtain ⟨b1, b2, b3, b4⟩ := sizeL_bounds _ _ _ _ (unhide HSZ)
      have hps := unhide HS p (List.mem_of_getElem? hpk)
      have hbA : Below wr.heap.size wr (wr.alloc (.cells #[.int .i64 p.kind, .int .i64 p.n, .string p.text] 39)) := (Below.refl _ _).alloc (Nat.le_refl _) _
      have HBA := hide ((unhide HB).trans (hbA.mono (unhide HB).size))
      have HRW := hide (RowAt.new wr 39 [.int .i64 p.kind, .int .i64 p.n, .string p.text])
      have HFI : Hid (∀ W, Below (wr.alloc (.cells #[.int .i64 p.kind, .int .i64 p.n, .string p.text] 39)).heap.size (wr.alloc (.cells #[.int .i64 p.kind, .int .i64 p.n, .string p.text] 39)) W → Calls Tryd.prog 37 #[.agg #[.int .i64 p.kind, .int .i64 p.n, .string p.text]] W fun r w' => r = .returned (.bool (fitsB p)) ∧ Below W.heap.size W w') := hide (fun W hW => fits_any p W (((unhide HT).call (unhide HBA)).call hW) hps)
      clear hpk hps hbA
      go_wp2_with fail
      obtain ⟨wA, hA⟩ : ∃ wA, wr.alloc (.cells #[.int .i64 p.kind, .int .i64 p.n, .string p.text] 39) = wA := ⟨_, rfl⟩
      have HFI2 := hide (unhide HFI _ (Below.refl _ _))
      rw [hA] at HBA HRW HFI2 ⊢
      clear hA HFI HB e0 e1 e2
      obtain ⟨bb, hbb⟩ : ∃ bb, wr.heap.size = bb := ⟨_, rfl⟩
      rw [hbb] at HRW ⊢
      clear hbb
      refine Calls.mono (unhide HFI2) ?_
      rintro r w2 ⟨rfl, hb2⟩
      have HB2 := hide ((unhide HBA).trans (hb2.mono (unhide HBA).size))
      have HR2 := hide ((unhide HRW).below hb2 (unhide HRW).lt)
      clear hb2 HBA HRW HFI2
      have r0 : w2.cell? ⟨bb, 0, none⟩ = some (.int .i64 p.kind) := (unhide HR2).cell 0
      have r1 : w2.cell? ⟨bb, 1, none⟩ = some (.int .i64 p.n) := (unhide HR2).cell 1
      cases hfb : fitsB p with
      | false =>
        have HNO : Hid (sizeL (l.take (k + 1)) = none) := hide (by rw [unhide HST]; simp [sizeStep, hfb])
        have HBX := HB2
        clear hfb
        go_wp2_with fail
        go_ret3
        have hz := sizeL_none (unhide HNO)
        exact ⟨by unfold szVal; rw [hz]; rfl, unhide HBX⟩
      | true =>
        obtain ⟨n1, n2⟩ := fits_bounds hfb
        have HFB := hide hfb
        clear hfb
        go_wp2_with fail
        refine Calls.mono (follows_any p.kind lv w2) ?_
        rintro r w3 ⟨rfl, rfl⟩
        rw [show (decide (p.kind ≠ lv) && !(decide (p.kind = 2) && decide (lv = 3))) = followsB p.kind lv from rfl]
        cases hfo : followsB p.kind lv with
        | false =>
          have HNO : Hid (sizeL (l.take (k + 1)) = none) := hide (by rw [unhide HST]; simp [sizeStep, hfo])
          have HBX := HB2
          clear hfo
          go_wp2_with fail
          go_ret3
          have hz := sizeL_none (unhide HNO)
          exact ⟨by unfold szVal; rw [hz]; rfl, unhide HBX⟩
        | true =>
          have HFO := hide hfo
          have HB3 := HB2
          clear hfo HB2
          by_cases k2 : p.kind = 2
          · rw [k2] at r0
            have K2 := hide k2
            by_cases hA : 1099511627776 < fv
            · exfalso; omega
            by_cases hB : 1099511627776 < tv + p.n
            · have HNO : Hid (sizeL (l.take (k + 1)) = none) := hide (by rw [unhide HST]; simp only [sizeStep]; rw [if_pos ⟨unhide HFB, unhide HFO⟩]; simp only [unhide K2, if_true, show ((2 : Int) = 3) = False from by simp, if_false]; rw [if_pos (.inr hB)])
              have HBX := HB3
              go_wp2_with fail
              go_ret3
              have hz := sizeL_none (unhide HNO)
              exact ⟨by unfold szVal; rw [hz]; rfl, unhide HBX⟩
            have HNX : Hid (sizeL (l.take (k + 1)) = some (fv, tv + p.n, p.kind)) := hide (by rw [unhide HST]; simp only [sizeStep]; rw [if_pos ⟨unhide HFB, unhide HFO⟩]; simp only [unhide K2, if_true, show ((2 : Int) = 3) = False from by simp, if_false]; rw [if_neg (by omega)])
            go_wp2_with fail
            exact ⟨⟨k + 1, by omega, by simp, ⟨_, _, _, rfl, rfl, rfl, hide (by rw [← unhide K2]; exact unhide HNX)⟩, HB3⟩, by simp [intOf]; omega⟩
          have k2b : (p.kind == 2) = false := by simp [k2]
          by_cases k3 : p.kind = 3
          · rw [k3] at r0
            have K3 := hide k3
            by_cases hA : 1099511627776 < fv + p.n
            · have HNO : Hid (sizeL (l.take (k + 1)) = none) := hide (by rw [unhide HST]; simp only [sizeStep]; rw [if_pos ⟨unhide HFB, unhide HFO⟩]; simp only [unhide K3, if_true, show ((3 : Int) = 2) = False from by simp, if_false]; rw [if_pos (.inl hA)])
              have HBX := HB3
              go_wp2_with fail
              go_ret3
              have hz := sizeL_none (unhide HNO)
              exact ⟨by unfold szVal; rw [hz]; rfl, unhide HBX⟩
            by_cases hB : 1099511627776 < tv
            · exfalso; omega
            have HNX : Hid (sizeL (l.take (k + 1)) = some (fv + p.n, tv, p.kind)) := hide (by rw [unhide HST]; simp only [sizeStep]; rw [if_pos ⟨unhide HFB, unhide HFO⟩]; simp only [unhide K3, if_true, show ((3 : Int) = 2) = False from by simp, if_false]; rw [if_neg (by omega)])
            go_wp2_with fail
            exact ⟨⟨k + 1, by omega, by simp, ⟨_, _, _, rfl, rfl, rfl, hide (by rw [← unhide K3]; exact unhide HNX)⟩, HB3⟩, by simp [intOf]; omega⟩
          have k3b : (p.kind == 3) = false := by simp [k3]
          by_cases hA : 1099511627776 < fv + p.n
          · have HNO : Hid (sizeL (l.take (k + 1)) = none) := hide (by rw [unhide HST]; simp only [sizeStep]; rw [if_pos ⟨unhide HFB, unhide HFO⟩]; simp only [k2, k3, if_false]; rw [if_pos (.inl hA)])
            have HBX := HB3
            go_wp2_with fail
            go_ret3
            have hz := sizeL_none (unhide HNO)
            exact ⟨by unfold szVal; rw [hz]; rfl, unhide HBX⟩
          by_cases hB : 1099511627776 < tv + p.n
          · have HNO : Hid (sizeL (l.take (k + 1)) = none) := hide (by rw [unhide HST]; simp only [sizeStep]; rw [if_pos ⟨unhide HFB, unhide HFO⟩]; simp only [k2, k3, if_false]; rw [if_pos (.inr hB)])
            have HBX := HB3
            go_wp2_with fail
            go_ret3
            have hz := sizeL_none (unhide HNO)
            exact ⟨by unfold szVal; rw [hz]; rfl, unhide HBX⟩
          have HNX : Hid (sizeL (l.take (k + 1)) = some (fv + p.n, tv + p.n, p.kind)) := hide (by rw [unhide HST]; simp only [sizeStep]; rw [if_pos ⟨unhide HFB, unhide HFO⟩]; simp only [k2, k3, if_false]; rw [if_neg (by omega)])
          go_wp2_with fail
          exact ⟨⟨k + 1, by omega, by simp, ⟨_, _, _, rfl, rfl, rfl, HNX⟩, HB3⟩, by simp [intOf]; omega⟩
    · obtain rfl : n = k := by omega
      have kI : ¬ (n : Int) < (n : Int) := by omega
      have HE : Hid (sizeL l = some (fv, tv, lv)) := hide (by have := unhide HSZ; rw [List.take_of_length_le (by rw [unhide HN]; exact Nat.le_refl _)] at this; exact this)
      go_wp2_with fail
      go_ret3
      exact ⟨by unfold szVal; rw [unhide HE]; rfl, unhide HB⟩
end Go.Proofs.YtonabfpgdgnpnaaDoor

namespace Go.Proofs.YtonabfpgdgnpnaaDoor
set_option linter.unusedVariables false
set_option linter.unusedSimpArgs false

/-- a single step -/
inductive At where
  | k : At
  | d : At
  | p : List UInt8 → At
namespace At
def fromN : List At → Nat
  | [] => 0
  | .p _ :: x => fromN x
  | .k :: x => fromN x + 1
  | .d :: x => fromN x + 1
def toN : List At → Nat
  | [] => 0
  | .p _ :: x => toN x + 1
  | .k :: x => toN x + 1
  | .d :: x => toN x
def putsN : List At → Nat
  | [] => 0
  | .p _ :: x => putsN x + 1
  | .k :: x => putsN x
  | .d :: x => putsN x
def dropsN : List At → Nat
  | [] => 0
  | .p _ :: x => dropsN x
  | .k :: x => dropsN x
  | .d :: x => dropsN x + 1
/-- between what is kept, what is put stands ahead of what is dropped -/
def canG : List (List UInt8) → Nat → List At → List At
  | ps, n, [] => ps.map .p ++ List.replicate n .d
  | ps, n, .k :: x => ps.map .p ++ List.replicate n .d ++ .k :: canG [] 0 x
  | ps, n, .d :: x => canG ps (n + 1) x
  | ps, n, .p c :: x => canG (ps ++ [c]) n x
def can (x : List At) : List At := canG [] 0 x
/-- by swaps of what is dropped and what is put beside it -/
inductive Sw : List At → List At → Prop where
  | refl (x) : Sw x x
  | cons (s) {x y} : Sw x y → Sw (s :: x) (s :: y)
  | swap (c x) : Sw (.d :: .p c :: x) (.p c :: .d :: x)
  | symm {x y} : Sw x y → Sw y x
  | trans {x y z} : Sw x y → Sw y z → Sw x z
theorem Sw.app (l : List At) {x y : List At} (h : Sw x y) : Sw (l ++ x) (l ++ y) := by
  induction l with
  | nil => exact h
  | cons s l ih => exact ih.cons s
theorem Sw.reps (n : Nat) (c : List UInt8) (x : List At) : Sw (List.replicate n .d ++ .p c :: x) (.p c :: (List.replicate n .d ++ x)) := by
  induction n with
  | zero => exact .refl _
  | succ n ih =>
    rw [List.replicate_succ]
    exact ((ih.cons .d)).trans (.swap c _)
theorem rep_snoc (n : Nat) (x : List At) : List.replicate n At.d ++ .d :: x = List.replicate (n + 1) At.d ++ x := by
  induction n with
  | zero => rfl
  | succ n ih =>
    rw [List.replicate_succ, List.cons_append, ih, List.replicate_succ (n := n + 1), List.cons_append]
theorem canG_sw : ∀ (x : List At) (ps : List (List UInt8)) (n : Nat), Sw (ps.map .p ++ (List.replicate n .d ++ x)) (canG ps n x)
  | [], ps, n => by simp only [canG, List.append_nil]; exact .refl _
  | .k :: x, ps, n => by
    simp only [canG, List.append_assoc]
    refine Sw.app _ (Sw.app _ ?_)
    have := canG_sw x [] 0
    exact this.cons _
  | .d :: x, ps, n => by
    simp only [canG]
    have := canG_sw x ps (n + 1)
    rw [rep_snoc]
    exact this
  | .p c :: x, ps, n => by
    simp only [canG]
    have := canG_sw x (ps ++ [c]) n
    refine Sw.trans ?_ this
    rw [List.map_append, List.append_assoc]
    exact Sw.app _ (Sw.reps n c x)
theorem can_sw (x : List At) : Sw x (can x) := canG_sw x [] 0
theorem canG_of_sw {x y : List At} (h : Sw x y) : ∀ ps n, canG ps n x = canG ps n y := by
  induction h with
  | refl x => intro _ _; rfl
  | cons s _ ih => intro ps n; cases s <;> simp only [canG, ih]
  | swap c x => intro ps n; simp only [canG]
  | symm _ ih => intro ps n; exact (ih ps n).symm
  | trans _ _ ih1 ih2 => intro ps n; exact (ih1 ps n).trans (ih2 ps n)
theorem can_of_sw {x y : List At} (h : Sw x y) : can x = can y := canG_of_sw h [] 0
theorem can_can (x : List At) : can (can x) = can x := (can_of_sw (can_sw x)).symm
theorem fromN_sw {x y : List At} (h : Sw x y) : fromN x = fromN y := by
  induction h with
  | refl x => rfl
  | cons s _ ih => cases s <;> simp only [fromN, ih]
  | swap c x => simp only [fromN]
  | symm _ ih => exact ih.symm
  | trans _ _ ih1 ih2 => exact ih1.trans ih2
theorem toN_sw {x y : List At} (h : Sw x y) : toN x = toN y := by
  induction h with
  | refl x => rfl
  | cons s _ ih => cases s <;> simp only [toN, ih]
  | swap c x => simp only [toN]
  | symm _ ih => exact ih.symm
  | trans _ _ ih1 ih2 => exact ih1.trans ih2
theorem putsN_sw {x y : List At} (h : Sw x y) : putsN x = putsN y := by
  induction h with
  | refl x => rfl
  | cons s _ ih => cases s <;> simp only [putsN, ih]
  | swap c x => simp only [putsN]
  | symm _ ih => exact ih.symm
  | trans _ _ ih1 ih2 => exact ih1.trans ih2
theorem dropsN_sw {x y : List At} (h : Sw x y) : dropsN x = dropsN y := by
  induction h with
  | refl x => rfl
  | cons s _ ih => cases s <;> simp only [dropsN, ih]
  | swap c x => simp only [dropsN]
  | symm _ ih => exact ih.symm
  | trans _ _ ih1 ih2 => exact ih1.trans ih2
theorem from_app (x y : List At) : fromN (x ++ y) = fromN x + fromN y := by
  induction x with
  | nil => simp [fromN]
  | cons s x ih => cases s <;> simp only [List.cons_append, fromN, ih] <;> omega
theorem to_app (x y : List At) : toN (x ++ y) = toN x + toN y := by
  induction x with
  | nil => simp [toN]
  | cons s x ih => cases s <;> simp only [List.cons_append, toN, ih] <;> omega
theorem puts_app (x y : List At) : putsN (x ++ y) = putsN x + putsN y := by
  induction x with
  | nil => simp [putsN]
  | cons s x ih => cases s <;> simp only [List.cons_append, putsN, ih] <;> omega
theorem drops_app (x y : List At) : dropsN (x ++ y) = dropsN x + dropsN y := by
  induction x with
  | nil => simp [dropsN]
  | cons s x ih => cases s <;> simp only [List.cons_append, dropsN, ih] <;> omega

/-- one behind the other -/
def comp : List At → List At → List At
  | [], y => y
  | .d :: x, y => .d :: comp x y
  | .k :: x, [] => comp x []
  | .k :: x, .p c :: y => .p c :: comp (.k :: x) y
  | .k :: x, .k :: y => .k :: comp x y
  | .k :: x, .d :: y => .d :: comp x y
  | .p e :: x, [] => comp x []
  | .p e :: x, .p c :: y => .p c :: comp (.p e :: x) y
  | .p e :: x, .k :: y => .p e :: comp x y
  | .p e :: x, .d :: y => comp x y
termination_by x y => x.length + y.length
theorem comp_from : ∀ (x y : List At), toN x = fromN y → fromN (comp x y) = fromN x
  | [], y, h => by simp only [comp, fromN, toN] at *; omega
  | .d :: x, y, h => by simp only [comp, fromN, toN] at *; rw [comp_from x y h]
  | .k :: x, [], h => by simp [fromN, toN] at h
  | .k :: x, .p c :: y, h => by simp only [comp, fromN, toN] at *; rw [comp_from (.k :: x) y (by simp only [toN]; omega)]; simp only [fromN]
  | .k :: x, .k :: y, h => by simp only [comp, fromN, toN] at *; rw [comp_from x y (by omega)]
  | .k :: x, .d :: y, h => by simp only [comp, fromN, toN] at *; rw [comp_from x y (by omega)]
  | .p e :: x, [], h => by simp [fromN, toN] at h
  | .p e :: x, .p c :: y, h => by simp only [comp, fromN, toN] at *; rw [comp_from (.p e :: x) y (by simp only [toN]; omega)]; simp only [fromN]
  | .p e :: x, .k :: y, h => by simp only [comp, fromN, toN] at *; rw [comp_from x y (by omega)]
  | .p e :: x, .d :: y, h => by simp only [comp, fromN, toN] at *; rw [comp_from x y (by omega)]
termination_by x y => x.length + y.length
theorem comp_to : ∀ (x y : List At), toN x = fromN y → toN (comp x y) = toN y
  | [], y, h => by simp only [comp]
  | .d :: x, y, h => by simp only [comp, fromN, toN] at *; rw [comp_to x y h]
  | .k :: x, [], h => by simp [fromN, toN] at h
  | .k :: x, .p c :: y, h => by simp only [comp, fromN, toN] at *; rw [comp_to (.k :: x) y (by simp only [toN]; omega)]
  | .k :: x, .k :: y, h => by simp only [comp, fromN, toN] at *; rw [comp_to x y (by omega)]
  | .k :: x, .d :: y, h => by simp only [comp, fromN, toN] at *; rw [comp_to x y (by omega)]
  | .p e :: x, [], h => by simp [fromN, toN] at h
  | .p e :: x, .p c :: y, h => by simp only [comp, fromN, toN] at *; rw [comp_to (.p e :: x) y (by simp only [toN]; omega)]
  | .p e :: x, .k :: y, h => by simp only [comp, fromN, toN] at *; rw [comp_to x y (by omega)]
  | .p e :: x, .d :: y, h => by simp only [comp, fromN, toN] at *; rw [comp_to x y (by omega)]
termination_by x y => x.length + y.length
theorem comp_put (c : List UInt8) : ∀ (x y : List At), Sw (comp x (.p c :: y)) (.p c :: comp x y)
  | [], y => by simp only [comp]; exact .refl _
  | .d :: x, y => by
    simp only [comp]
    exact ((comp_put c x y).cons .d).trans (.swap c _)
  | .k :: x, y => by simp only [comp]; exact .refl _
  | .p e :: x, y => by simp only [comp]; exact .refl _
theorem comp_swap (c : List UInt8) : ∀ (x y : List At), Sw (comp x (.d :: .p c :: y)) (comp x (.p c :: .d :: y))
  | [], y => by simp only [comp]; exact .swap c y
  | .d :: x, y => by simp only [comp]; exact (comp_swap c x y).cons .d
  | .k :: x, y => by
    simp only [comp]
    exact ((comp_put c x y).cons .d).trans (.swap c _)
  | .p e :: x, y => by
    simp only [comp]
    exact comp_put c x y
theorem comp_cons {y z : List At} (h : Sw y z) (ih : ∀ x, Sw (comp x y) (comp x z)) (s : At) : ∀ x, Sw (comp x (s :: y)) (comp x (s :: z))
  | [] => by simp only [comp]; exact h.cons s
  | .d :: x => by simp only [comp]; exact (comp_cons h ih s x).cons .d
  | .k :: x => by
    cases s with
    | k => simp only [comp]; exact (ih x).cons _
    | d => simp only [comp]; exact (ih x).cons _
    | p c => simp only [comp]; exact (ih _).cons _
  | .p e :: x => by
    cases s with
    | k => simp only [comp]; exact (ih x).cons _
    | d => simp only [comp]; exact (ih x)
    | p c => simp only [comp]; exact (ih _).cons _
theorem comp_right {y z : List At} (h : Sw y z) : ∀ x, Sw (comp x y) (comp x z) := by
  induction h with
  | refl y => intro x; exact .refl _
  | cons s h ih => exact comp_cons h ih s
  | swap c y => intro x; exact comp_swap c x y
  | symm _ ih => intro x; exact (ih x).symm
  | trans _ _ ih1 ih2 => intro x; exact (ih1 x).trans (ih2 x)
theorem comp_lswap (c : List UInt8) (x : List At) : ∀ y, Sw (comp (.d :: .p c :: x) y) (comp (.p c :: .d :: x) y)
  | [] => by simp only [comp]; exact .refl _
  | .p e :: y => by
    have ih := comp_lswap c x y
    simp only [comp] at ih ⊢
    exact (Sw.swap e _).trans (ih.cons _)
  | .k :: y => by simp only [comp]; exact .swap c _
  | .d :: y => by simp only [comp]; exact .refl _
theorem comp_lcons {x z : List At} (ih : ∀ y, Sw (comp x y) (comp z y)) (s : At) : ∀ y, Sw (comp (s :: x) y) (comp (s :: z) y)
  | [] => by cases s <;> simp only [comp] <;> first | exact ih _ | exact (ih _).cons _
  | .p e :: y => by
    have h := comp_lcons ih s y
    cases s with
    | d => simp only [comp]; exact (ih _).cons _
    | k => simp only [comp]; exact h.cons _
    | p c => simp only [comp]; exact h.cons _
  | .k :: y => by cases s <;> simp only [comp] <;> exact (ih _).cons _
  | .d :: y => by cases s <;> simp only [comp] <;> first | exact (ih _).cons _ | exact ih _
theorem comp_left {x z : List At} (h : Sw x z) : ∀ y, Sw (comp x y) (comp z y) := by
  induction h with
  | refl y => intro x; exact .refl _
  | cons s h ih => exact comp_lcons ih s
  | swap c x => exact comp_lswap c x
  | symm _ ih => intro x; exact (ih x).symm
  | trans _ _ ih1 ih2 => intro x; exact (ih1 x).trans (ih2 x)
/-- the canonical forms may be taken at any time -/
theorem can_comp (x y : List At) : can (comp (can x) (can y)) = can (comp x y) :=
  can_of_sw (((comp_left (can_sw x) (can y)).symm).trans ((comp_right (can_sw y) x).symm))
theorem can_comp_left (x y : List At) : can (comp (can x) y) = can (comp x y) := can_of_sw (comp_left (can_sw x) y).symm
theorem can_comp_right (x y : List At) : can (comp x (can y)) = can (comp x y) := can_of_sw (comp_right (can_sw y) x).symm
theorem comp_assoc : ∀ (a b c : List At), toN a = fromN b → toN b = fromN c → comp (comp a b) c = comp a (comp b c)
  | [], b, c, _, _ => by simp only [comp]
  | .d :: a, b, c, h, i => by simp only [comp, toN, fromN] at *; rw [comp_assoc a b c (by omega) (by omega)]
  | .k :: a, [], c, h, i => by simp [fromN, toN] at h
  | .p e :: a, [], c, h, i => by simp [fromN, toN] at h
  | .k :: a, .d :: b, c, h, i => by simp only [comp, toN, fromN] at *; rw [comp_assoc a b c (by omega) (by omega)]
  | .p e :: a, .d :: b, c, h, i => by simp only [comp, toN, fromN] at *; rw [comp_assoc a b c (by omega) (by omega)]
  | .k :: a, .k :: b, [], h, i => by simp [fromN, toN] at i
  | .k :: a, .k :: b, .p f :: c, h, i => by have := comp_assoc (.k :: a) (.k :: b) c h (by simpa [fromN, toN] using i); simp only [comp] at this ⊢; rw [this]
  | .k :: a, .k :: b, .k :: c, h, i => by simp only [comp, toN, fromN] at *; rw [comp_assoc a b c (by omega) (by omega)]
  | .k :: a, .k :: b, .d :: c, h, i => by simp only [comp, toN, fromN] at *; rw [comp_assoc a b c (by omega) (by omega)]
  | .k :: a, .p g :: b, [], h, i => by simp [fromN, toN] at i
  | .k :: a, .p g :: b, .p f :: c, h, i => by have := comp_assoc (.k :: a) (.p g :: b) c h (by simpa [fromN, toN] using i); simp only [comp] at this ⊢; rw [this]
  | .k :: a, .p g :: b, .k :: c, h, i => by simp only [comp, toN, fromN] at *; rw [comp_assoc (.k :: a) b c (by simpa only [toN] using h) (by omega)]
  | .k :: a, .p g :: b, .d :: c, h, i => by simp only [comp, toN, fromN] at *; rw [comp_assoc (.k :: a) b c (by simpa only [toN] using h) (by omega)]
  | .p e :: a, .k :: b, [], h, i => by simp [fromN, toN] at i
  | .p e :: a, .k :: b, .p f :: c, h, i => by have := comp_assoc (.p e :: a) (.k :: b) c h (by simpa [fromN, toN] using i); simp only [comp] at this ⊢; rw [this]
  | .p e :: a, .k :: b, .k :: c, h, i => by simp only [comp, toN, fromN] at *; rw [comp_assoc a b c (by omega) (by omega)]
  | .p e :: a, .k :: b, .d :: c, h, i => by simp only [comp, toN, fromN] at *; rw [comp_assoc a b c (by omega) (by omega)]
  | .p e :: a, .p g :: b, [], h, i => by simp [fromN, toN] at i
  | .p e :: a, .p g :: b, .p f :: c, h, i => by have := comp_assoc (.p e :: a) (.p g :: b) c h (by simpa [fromN, toN] using i); simp only [comp] at this ⊢; rw [this]
  | .p e :: a, .p g :: b, .k :: c, h, i => by simp only [comp, toN, fromN] at *; rw [comp_assoc (.p e :: a) b c (by simpa only [toN] using h) (by omega)]
  | .p e :: a, .p g :: b, .d :: c, h, i => by simp only [comp, toN, fromN] at *; rw [comp_assoc (.p e :: a) b c (by simpa only [toN] using h) (by omega)]
termination_by a b c => a.length + b.length + c.length
/-- an edit as it is behind another one; what it puts stands ahead -/
def one : List At → List At → List At
  | .p c :: x, y => .p c :: one x y
  | [], [] => []
  | [], .p c :: y => .k :: one [] y
  | [], .k :: y => one [] y
  | [], .d :: y => one [] y
  | .k :: x, [] => one x []
  | .k :: x, .p c :: y => .k :: one (.k :: x) y
  | .k :: x, .k :: y => .k :: one x y
  | .k :: x, .d :: y => one x y
  | .d :: x, [] => one x []
  | .d :: x, .p c :: y => .k :: one (.d :: x) y
  | .d :: x, .k :: y => .d :: one x y
  | .d :: x, .d :: y => one x y
termination_by x y => x.length + y.length
/-- the other one as it is behind the first -/
def two : List At → List At → List At
  | .p c :: x, y => .k :: two x y
  | [], [] => []
  | [], .p c :: y => .p c :: two [] y
  | [], .k :: y => two [] y
  | [], .d :: y => two [] y
  | .k :: x, [] => two x []
  | .k :: x, .p c :: y => .p c :: two (.k :: x) y
  | .k :: x, .k :: y => .k :: two x y
  | .k :: x, .d :: y => .d :: two x y
  | .d :: x, [] => two x []
  | .d :: x, .p c :: y => .p c :: two (.d :: x) y
  | .d :: x, .k :: y => two x y
  | .d :: x, .d :: y => two x y
termination_by x y => x.length + y.length
theorem square : ∀ (a b : List At), fromN a = fromN b → Sw (comp a (two a b)) (comp b (one a b))
  | .p c :: x, y, h => by
    have ih := square x y (by simpa [fromN] using h)
    simp only [one, two, comp]
    exact (ih.cons _).trans (comp_put c y (one x y)).symm
  | [], [], h => by simp only [one, two, comp]; exact .refl _
  | [], .p c :: y, h => by
    have ih := square [] y (by simpa [fromN] using h)
    simp only [one, two, comp] at ih ⊢
    exact ih.cons _
  | [], .k :: y, h => by simp [fromN] at h
  | [], .d :: y, h => by simp [fromN] at h
  | .k :: x, [], h => by simp [fromN] at h
  | .k :: x, .p c :: y, h => by
    have ih := square (.k :: x) y (by simpa [fromN] using h)
    simp only [one, two, comp]
    exact ih.cons _
  | .k :: x, .k :: y, h => by
    have ih := square x y (by simpa [fromN] using h)
    simp only [one, two, comp]
    exact ih.cons _
  | .k :: x, .d :: y, h => by
    have ih := square x y (by simpa [fromN] using h)
    simp only [one, two, comp]
    exact ih.cons _
  | .d :: x, [], h => by simp [fromN] at h
  | .d :: x, .p c :: y, h => by
    have ih := square (.d :: x) y (by simpa [fromN] using h)
    simp only [one, two]
    refine (comp_put c (.d :: x) _).trans ?_
    simp only [comp] at ih ⊢
    exact ih.cons _
  | .d :: x, .k :: y, h => by
    have ih := square x y (by simpa [fromN] using h)
    simp only [one, two, comp]
    exact ih.cons _
  | .d :: x, .d :: y, h => by
    have ih := square x y (by simpa [fromN] using h)
    simp only [one, two, comp]
    exact ih.cons _
termination_by a b => a.length + b.length
theorem sizes : ∀ (a b : List At), fromN a = fromN b → fromN (one a b) = toN b ∧ fromN (two a b) = toN a ∧ toN (one a b) = toN (two a b) ∧ putsN (one a b) = putsN a ∧ putsN (two a b) = putsN b
  | .p c :: x, y, h => by
    have ih := sizes x y (by simpa [fromN] using h)
    simp only [one, two, fromN, toN, putsN]
    omega
  | [], [], h => by simp [one, two, fromN, toN, putsN]
  | [], .p c :: y, h => by
    have ih := sizes [] y (by simpa [fromN] using h)
    simp only [one, two, fromN, toN, putsN] at ih ⊢
    omega
  | [], .k :: y, h => by simp [fromN] at h
  | [], .d :: y, h => by simp [fromN] at h
  | .k :: x, [], h => by simp [fromN] at h
  | .k :: x, .p c :: y, h => by
    have ih := sizes (.k :: x) y (by simpa [fromN] using h)
    simp only [one, two, fromN, toN, putsN] at ih ⊢
    omega
  | .k :: x, .k :: y, h => by
    have ih := sizes x y (by simpa [fromN] using h)
    simp only [one, two, fromN, toN, putsN] at ih ⊢
    omega
  | .k :: x, .d :: y, h => by
    have ih := sizes x y (by simpa [fromN] using h)
    simp only [one, two, fromN, toN, putsN] at ih ⊢
    omega
  | .d :: x, [], h => by simp [fromN] at h
  | .d :: x, .p c :: y, h => by
    have ih := sizes (.d :: x) y (by simpa [fromN] using h)
    simp only [one, two, fromN, toN, putsN] at ih ⊢
    omega
  | .d :: x, .k :: y, h => by
    have ih := sizes x y (by simpa [fromN] using h)
    simp only [one, two, fromN, toN, putsN] at ih ⊢
    omega
  | .d :: x, .d :: y, h => by
    have ih := sizes x y (by simpa [fromN] using h)
    simp only [one, two, fromN, toN, putsN] at ih ⊢
    omega
termination_by a b => a.length + b.length
/-- what an edit makes of a text -/
def app : List At → List (List UInt8) → List (List UInt8)
  | [], s => s
  | .p c :: x, s => c :: app x s
  | .k :: x, [] => app x []
  | .k :: x, c :: s => c :: app x s
  | .d :: x, [] => app x []
  | .d :: x, _ :: s => app x s
theorem app_len : ∀ (x : List At) (s : List (List UInt8)), s.length = fromN x → (app x s).length = toN x
  | [], s, h => by simpa [app, fromN, toN] using h
  | .p c :: x, s, h => by simp only [app, fromN, toN, List.length_cons] at *; rw [app_len x s h]
  | .k :: x, [], h => by simp [fromN] at h
  | .k :: x, c :: s, h => by simp only [app, fromN, toN, List.length_cons] at *; rw [app_len x s (by omega)]
  | .d :: x, [], h => by simp [fromN] at h
  | .d :: x, c :: s, h => by simp only [app, fromN, toN, List.length_cons] at *; rw [app_len x s (by omega)]
theorem app_sw {x y : List At} (h : Sw x y) : ∀ s, app x s = app y s := by
  induction h with
  | refl x => intro _; rfl
  | cons t _ ih =>
    intro s
    cases t with
    | p c => simp only [app, ih]
    | k => cases s <;> simp only [app, ih]
    | d => cases s <;> simp only [app, ih]
  | swap c x => intro s; cases s <;> simp only [app]
  | symm _ ih => intro s; exact (ih s).symm
  | trans _ _ ih1 ih2 => intro s; exact (ih1 s).trans (ih2 s)
theorem app_can (x : List At) (s : List (List UInt8)) : app (can x) s = app x s := (app_sw (can_sw x) s).symm
theorem app_comp : ∀ (a b : List At) (s : List (List UInt8)), s.length = fromN a → toN a = fromN b → app (comp a b) s = app b (app a s)
  | [], b, s, h, i => by simp only [comp, app]
  | .d :: a, b, [], h, i => by simp [fromN] at h
  | .d :: a, b, c :: s, h, i => by simp only [comp, app, fromN, toN, List.length_cons] at *; rw [app_comp a b s (by omega) i]
  | .k :: a, [], s, h, i => by simp [fromN, toN] at i
  | .p e :: a, [], s, h, i => by simp [fromN, toN] at i
  | .k :: a, .p f :: b, s, h, i => by
    have := app_comp (.k :: a) b s h (by simpa [fromN, toN] using i)
    simp only [comp, app, this]
  | .p e :: a, .p f :: b, s, h, i => by
    have := app_comp (.p e :: a) b s h (by simpa [fromN, toN] using i)
    simp only [comp, app] at this ⊢
    rw [this]
  | .k :: a, .k :: b, [], h, i => by simp [fromN] at h
  | .k :: a, .k :: b, c :: s, h, i => by simp only [comp, app, fromN, toN, List.length_cons] at *; rw [app_comp a b s (by omega) (by omega)]
  | .k :: a, .d :: b, [], h, i => by simp [fromN] at h
  | .k :: a, .d :: b, c :: s, h, i => by simp only [comp, app, fromN, toN, List.length_cons] at *; rw [app_comp a b s (by omega) (by omega)]
  | .p e :: a, .k :: b, s, h, i => by simp only [comp, app, fromN, toN] at *; rw [app_comp a b s (by omega) (by omega)]
  | .p e :: a, .d :: b, s, h, i => by simp only [comp, app, fromN, toN] at *; rw [app_comp a b s (by omega) (by omega)]
termination_by a b => a.length + b.length
/-- the way around: both make one text -/
theorem diamond (a b : List At) (s : List (List UInt8)) (ha : s.length = fromN a) (hb : s.length = fromN b) : app (two a b) (app a s) = app (one a b) (app b s) := by
  have z := sizes a b (by omega)
  rw [← app_comp a (two a b) s ha (by omega), ← app_comp b (one a b) s hb (by omega)]
  exact app_sw (square a b (by omega)) s
/-- the edit that undoes one -/
def inv : List At → List (List UInt8) → List At
  | [], s => []
  | .p c :: x, s => .d :: inv x s
  | .k :: x, [] => inv x []
  | .k :: x, c :: s => .k :: inv x s
  | .d :: x, [] => inv x []
  | .d :: x, c :: s => .p c :: inv x s
theorem inv_sizes : ∀ (x : List At) (s : List (List UInt8)), s.length = fromN x → fromN (inv x s) = toN x ∧ toN (inv x s) = fromN x
  | [], s, h => by simp [inv, fromN, toN]
  | .p c :: x, s, h => by have := inv_sizes x s h; simp only [inv, fromN, toN, List.length_cons] at *; omega
  | .k :: x, [], h => by simp [fromN] at h
  | .k :: x, c :: s, h => by have := inv_sizes x s (by simpa [fromN] using h); simp only [inv, fromN, toN, List.length_cons] at *; omega
  | .d :: x, [], h => by simp [fromN] at h
  | .d :: x, c :: s, h => by have := inv_sizes x s (by simpa [fromN] using h); simp only [inv, fromN, toN, List.length_cons] at *; omega
theorem inv_app : ∀ (x : List At) (s : List (List UInt8)), s.length = fromN x → app (inv x s) (app x s) = s
  | [], s, h => by simp [inv, app]
  | .p c :: x, s, h => by simp only [inv, app]; exact inv_app x s h
  | .k :: x, [], h => by simp [fromN] at h
  | .k :: x, c :: s, h => by simp only [inv, app]; rw [inv_app x s (by simpa [fromN] using h)]
  | .d :: x, [], h => by simp [fromN] at h
  | .d :: x, c :: s, h => by simp only [inv, app]; rw [inv_app x s (by simpa [fromN] using h)]
/-- what is kept and what is dropped, without what is put -/
def mask : List At → List Bool
  | [] => []
  | .p _ :: x => mask x
  | .k :: x => false :: mask x
  | .d :: x => true :: mask x
def cntB : List Bool → List Bool → Nat
  | true :: x, false :: y => cntB x y + 1
  | _ :: x, _ :: y => cntB x y
  | _, _ => 0
theorem mask_sw {x y : List At} (h : Sw x y) : mask x = mask y := by
  induction h with
  | refl x => rfl
  | cons s _ ih => cases s <;> simp only [mask, ih]
  | swap c x => simp only [mask]
  | symm _ ih => exact ih.symm
  | trans _ _ ih1 ih2 => exact ih1.trans ih2
theorem cntB_nil (x : List Bool) : cntB x [] = 0 := by cases x <;> simp [cntB]
theorem one_nil : ∀ x : List At, dropsN (one x []) = 0
  | [] => by simp [one, dropsN]
  | .p c :: x => by simp only [one, dropsN]; exact one_nil x
  | .k :: x => by simp only [one]; exact one_nil x
  | .d :: x => by simp only [one]; exact one_nil x
theorem drops_mask : ∀ (x y : List At), dropsN (one x y) = cntB (mask x) (mask y)
  | .p c :: x, y => by simp only [one, dropsN, mask]; exact drops_mask x y
  | x, [] => by rw [one_nil]; simp [mask, cntB_nil]
  | [], .p c :: y => by have := drops_mask [] y; simpa only [one, dropsN, mask] using this
  | [], .k :: y => by have := drops_mask [] y; simp only [one, dropsN, mask, cntB] at this ⊢; rw [this]
  | [], .d :: y => by have := drops_mask [] y; simp only [one, dropsN, mask, cntB] at this ⊢; rw [this]
  | .k :: x, .p c :: y => by have := drops_mask (.k :: x) y; simpa only [one, dropsN, mask] using this
  | .k :: x, .k :: y => by simp only [one, dropsN, mask, cntB]; exact drops_mask x y
  | .k :: x, .d :: y => by simp only [one, dropsN, mask, cntB]; exact drops_mask x y
  | .d :: x, .p c :: y => by have := drops_mask (.d :: x) y; simpa only [one, dropsN, mask] using this
  | .d :: x, .k :: y => by simp only [one, dropsN, mask, cntB]; rw [drops_mask x y]
  | .d :: x, .d :: y => by simp only [one, dropsN, mask, cntB]; exact drops_mask x y
termination_by x y => x.length + y.length
theorem drops_sw {x z y u : List At} (h : Sw x z) (k : Sw y u) : dropsN (one x y) = dropsN (one z u) := by
  rw [drops_mask, drops_mask, mask_sw h, mask_sw k]
/-- how much is dropped behind another one -/
theorem drops_one : ∀ (a b c : List At), fromN a = fromN b → toN b = fromN c → dropsN (one (one a b) c) = dropsN (one a (comp b c))
  | .p e :: a, b, c, h, i => by
    simp only [one, dropsN]
    exact drops_one a b c (by simpa [fromN] using h) i
  | [], [], c, h, i => by simp only [one, comp]
  | [], .p f :: b, [], h, i => by simp [fromN, toN] at i
  | [], .p f :: b, .p g :: c, h, i => by
    have ih := drops_one [] (.p f :: b) c h (by simpa [fromN, toN] using i)
    simp only [one, comp, dropsN] at ih ⊢
    rw [ih]
  | [], .p f :: b, .k :: c, h, i => by
    have ih := drops_one [] b c (by simpa [fromN] using h) (by simpa [fromN, toN] using i)
    simp only [one, comp, dropsN] at ih ⊢
    rw [ih]
  | [], .p f :: b, .d :: c, h, i => by
    have ih := drops_one [] b c (by simpa [fromN] using h) (by simpa [fromN, toN] using i)
    simp only [one, comp, dropsN] at ih ⊢
    rw [ih]
  | .k :: a, .p f :: b, [], h, i => by simp [fromN, toN] at i
  | .k :: a, .p f :: b, .p g :: c, h, i => by
    have ih := drops_one (.k :: a) (.p f :: b) c h (by simpa [fromN, toN] using i)
    simp only [one, comp, dropsN] at ih ⊢
    rw [ih]
  | .k :: a, .p f :: b, .k :: c, h, i => by
    have ih := drops_one (.k :: a) b c (by simpa [fromN] using h) (by simpa [fromN, toN] using i)
    simp only [one, comp, dropsN] at ih ⊢
    rw [ih]
  | .k :: a, .p f :: b, .d :: c, h, i => by
    have ih := drops_one (.k :: a) b c (by simpa [fromN] using h) (by simpa [fromN, toN] using i)
    simp only [one, comp, dropsN] at ih ⊢
    rw [ih]
  | .d :: a, .p f :: b, [], h, i => by simp [fromN, toN] at i
  | .d :: a, .p f :: b, .p g :: c, h, i => by
    have ih := drops_one (.d :: a) (.p f :: b) c h (by simpa [fromN, toN] using i)
    simp only [one, comp, dropsN] at ih ⊢
    rw [ih]
  | .d :: a, .p f :: b, .k :: c, h, i => by
    have ih := drops_one (.d :: a) b c (by simpa [fromN] using h) (by simpa [fromN, toN] using i)
    simp only [one, comp, dropsN] at ih ⊢
    rw [ih]
  | .d :: a, .p f :: b, .d :: c, h, i => by
    have ih := drops_one (.d :: a) b c (by simpa [fromN] using h) (by simpa [fromN, toN] using i)
    simp only [one, comp, dropsN] at ih ⊢
    rw [ih]
  | [], .k :: b, c, h, i => by simp [fromN] at h
  | [], .d :: b, c, h, i => by simp [fromN] at h
  | .k :: a, [], c, h, i => by simp [fromN] at h
  | .d :: a, [], c, h, i => by simp [fromN] at h
  | .k :: a, .d :: b, c, h, i => by
    have ih := drops_one a b c (by simpa [fromN] using h) (by simpa [fromN, toN] using i)
    simp only [one, comp, dropsN] at ih ⊢
    rw [ih]
  | .k :: a, .k :: b, [], h, i => by simp [fromN, toN] at i
  | .k :: a, .k :: b, .p g :: c, h, i => by
    have ih := drops_one (.k :: a) (.k :: b) c h (by simpa [fromN, toN] using i)
    simp only [one, comp, dropsN] at ih ⊢
    rw [ih]
  | .k :: a, .k :: b, .k :: c, h, i => by
    have ih := drops_one a b c (by simpa [fromN] using h) (by simpa [fromN, toN] using i)
    simp only [one, comp, dropsN] at ih ⊢
    rw [ih]
  | .k :: a, .k :: b, .d :: c, h, i => by
    have ih := drops_one a b c (by simpa [fromN] using h) (by simpa [fromN, toN] using i)
    simp only [one, comp, dropsN] at ih ⊢
    rw [ih]
  | .d :: a, .d :: b, c, h, i => by
    have ih := drops_one a b c (by simpa [fromN] using h) (by simpa [fromN, toN] using i)
    simp only [one, comp, dropsN] at ih ⊢
    rw [ih]
  | .d :: a, .k :: b, [], h, i => by simp [fromN, toN] at i
  | .d :: a, .k :: b, .p g :: c, h, i => by
    have ih := drops_one (.d :: a) (.k :: b) c h (by simpa [fromN, toN] using i)
    simp only [one, comp, dropsN] at ih ⊢
    rw [ih]
  | .d :: a, .k :: b, .k :: c, h, i => by
    have ih := drops_one a b c (by simpa [fromN] using h) (by simpa [fromN, toN] using i)
    simp only [one, comp, dropsN] at ih ⊢
    rw [ih]
  | .d :: a, .k :: b, .d :: c, h, i => by
    have ih := drops_one a b c (by simpa [fromN] using h) (by simpa [fromN, toN] using i)
    simp only [one, comp, dropsN] at ih ⊢
    rw [ih]
termination_by a b c => a.length + b.length + c.length
/-- where a place is -/
def cur : List At → Nat → Bool → Nat
  | [], _, _ => 0
  | .p _ :: x, n, f => (if n = 0 ∧ f = false then 0 else 1) + cur x n f
  | .k :: x, 0, f => 0
  | .k :: x, n + 1, f => 1 + cur x n f
  | .d :: x, 0, f => 0
  | .d :: x, n + 1, f => cur x n f
theorem cur_zero : ∀ x : List At, cur x 0 false = 0
  | [] => by simp [cur]
  | .p _ :: x => by simp [cur, cur_zero x]
  | .k :: x => by simp [cur]
  | .d :: x => by simp [cur]
theorem cur_le : ∀ (x : List At) (n : Nat) (f : Bool), cur x n f ≤ toN x
  | [], _, _ => by simp [cur]
  | .p _ :: x, n, f => by have := cur_le x n f; simp only [cur, toN]; split <;> omega
  | .k :: x, 0, f => by simp [cur]
  | .k :: x, n + 1, f => by have := cur_le x n f; simp only [cur, toN]; omega
  | .d :: x, 0, f => by simp [cur]
  | .d :: x, n + 1, f => by have := cur_le x n f; simp only [cur, toN]; omega
theorem cur_flag : ∀ (x : List At) (n : Nat), cur x n false ≤ cur x n true
  | [], _ => by simp [cur]
  | .p _ :: x, n => by have := cur_flag x n; simp only [cur]; split <;> simp <;> omega
  | .k :: x, 0 => by simp [cur]
  | .k :: x, n + 1 => by have := cur_flag x n; simp only [cur]; omega
  | .d :: x, 0 => by simp [cur]
  | .d :: x, n + 1 => by have := cur_flag x n; simp only [cur]; omega
theorem cur_mono : ∀ (x : List At) (n m : Nat), n ≤ m → cur x n false ≤ cur x m false
  | [], _, _, _ => by simp [cur]
  | .p _ :: x, n, m, h => by
    have := cur_mono x n m h
    simp only [cur, and_true]
    split
    · omega
    · rw [if_neg (by omega)]; omega
  | .k :: x, 0, m, h => by simp [cur]
  | .k :: x, n + 1, 0, h => by omega
  | .k :: x, n + 1, m + 1, h => by have := cur_mono x n m (by omega); simp only [cur]; omega
  | .d :: x, 0, m, h => by simp [cur]
  | .d :: x, n + 1, 0, h => by omega
  | .d :: x, n + 1, m + 1, h => by have := cur_mono x n m (by omega); simp only [cur]; omega
theorem cur_comp : ∀ (a b : List At) (n : Nat) (f : Bool), dropsN a = 0 → dropsN b = 0 → toN a = fromN b → n ≤ fromN a → cur (comp a b) n f = cur b (cur a n f) f
  | [], b, n, f, _, _, h, hn => by simp only [comp, cur, fromN] at *; obtain rfl : n = 0 := by omega
                                   rfl
  | .d :: a, b, n, f, h, _, _, _ => by simp [dropsN] at h
  | .k :: a, [], n, f, _, _, h, _ => by simp [fromN, toN] at h
  | .p e :: a, [], n, f, _, _, h, _ => by simp [fromN, toN] at h
  | .k :: a, .d :: b, n, f, _, h, _, _ => by simp [dropsN] at h
  | .p e :: a, .d :: b, n, f, _, h, _, _ => by simp [dropsN] at h
  | .k :: a, .p c :: b, n, f, h1, h2, h3, h4 => by
    have ih := cur_comp (.k :: a) b n f h1 (by simpa [dropsN] using h2) (by simpa [fromN, toN] using h3) h4
    cases n with
    | zero => simp only [comp, cur] at ih ⊢; rw [ih]
    | succ n =>
      have e1 : cur (.k :: a) (n + 1) f = 1 + cur a n f := by simp only [cur]
      rw [e1] at ih ⊢
      have e2 : cur (comp (.k :: a) (.p c :: b)) (n + 1) f = 1 + cur (comp (.k :: a) b) (n + 1) f := by simp [comp, cur]
      have e3 : cur (.p c :: b) (1 + cur a n f) f = 1 + cur b (1 + cur a n f) f := by
        rw [cur, if_neg (by omega)]
      rw [e2, e3, ih]
  | .k :: a, .k :: b, 0, f, h1, h2, h3, h4 => by simp only [comp, cur]
  | .k :: a, .k :: b, n + 1, f, h1, h2, h3, h4 => by
    have ih := cur_comp a b n f (by simpa [dropsN] using h1) (by simpa [dropsN] using h2) (by simpa [fromN, toN] using h3) (by simpa [fromN] using h4)
    simp only [comp, cur, ih]
    rw [Nat.add_comm 1 (cur a n f)]
    simp only [cur]
  | .p e :: a, .p c :: b, n, f, h1, h2, h3, h4 => by
    have ih := cur_comp (.p e :: a) b n f h1 (by simpa [dropsN] using h2) (by simpa [fromN, toN] using h3) h4
    simp only [comp]
    rw [cur, ih]
    conv => rhs; rw [cur]
    congr 1
    by_cases hf : n = 0 ∧ f = false
    · obtain ⟨rfl, rfl⟩ := hf
      rw [cur_zero]
    · rw [if_neg hf]
      have : ¬ (cur (.p e :: a) n f = 0) := by simp only [cur]; rw [if_neg hf]; omega
      rw [if_neg (fun q => this q.1)]
  | .p e :: a, .k :: b, n, f, h1, h2, h3, h4 => by
    have ih := cur_comp a b n f (by simpa [dropsN] using h1) (by simpa [dropsN] using h2) (by simpa [fromN, toN] using h3) (by simpa [fromN] using h4)
    simp only [comp]
    by_cases hf : n = 0 ∧ f = false
    · obtain ⟨rfl, rfl⟩ := hf
      rw [cur_zero, cur_zero, cur_zero]
    · simp only [cur]
      rw [if_neg hf, ih, Nat.add_comm 1 (cur a n f)]
      simp only [cur]
termination_by a b => a.length + b.length
theorem drops_comp : ∀ (a b : List At), dropsN a = 0 → dropsN b = 0 → dropsN (comp a b) = 0
  | [], b, _, h => by simpa only [comp] using h
  | .d :: a, b, h, _ => by simp [dropsN] at h
  | .k :: a, [], h, _ => by simp only [comp]; exact drops_comp a [] (by simpa [dropsN] using h) rfl
  | .p e :: a, [], h, _ => by simp only [comp]; exact drops_comp a [] (by simpa [dropsN] using h) rfl
  | .k :: a, .d :: b, _, h => by simp [dropsN] at h
  | .p e :: a, .d :: b, _, h => by simp [dropsN] at h
  | .k :: a, .p c :: b, h, i => by simp only [comp, dropsN]; exact drops_comp (.k :: a) b h (by simpa [dropsN] using i)
  | .p e :: a, .p c :: b, h, i => by simp only [comp, dropsN]; exact drops_comp (.p e :: a) b h (by simpa [dropsN] using i)
  | .k :: a, .k :: b, h, i => by simp only [comp, dropsN]; exact drops_comp a b (by simpa [dropsN] using h) (by simpa [dropsN] using i)
  | .p e :: a, .k :: b, h, i => by simp only [comp, dropsN]; exact drops_comp a b (by simpa [dropsN] using h) (by simpa [dropsN] using i)
termination_by a b => a.length + b.length
theorem canG_nodrop : ∀ (x : List At) (ps : List (List UInt8)), dropsN x = 0 → canG ps 0 x = ps.map .p ++ x
  | [], ps, _ => by simp [canG]
  | .d :: x, ps, h => by simp [dropsN] at h
  | .k :: x, ps, h => by simp only [canG]; rw [canG_nodrop x [] (by simpa [dropsN] using h)]; simp
  | .p c :: x, ps, h => by simp only [canG]; rw [canG_nodrop x _ (by simpa [dropsN] using h)]; simp
theorem can_nodrop (x : List At) (h : dropsN x = 0) : can x = x := by
  have := canG_nodrop x [] h
  simpa [can] using this
theorem comp_same (n : Nat) : ∀ y : List At, fromN y = n → comp (List.replicate n .k) y = y := by
  induction n with
  | zero => intro y h; simp [comp]
  | succ n ih =>
    intro y h
    rw [List.replicate_succ]
    induction y with
    | nil => simp [fromN] at h
    | cons s y ih2 =>
      cases s with
      | k => simp only [comp]; rw [ih y (by simpa [fromN] using h)]
      | d => simp only [comp]; rw [ih y (by simpa [fromN] using h)]
      | p c => simp only [comp]; rw [ih2 (by simpa [fromN] using h)]
theorem comp_end : ∀ x : List At, comp x (List.replicate (toN x) .k) = x
  | [] => by simp [comp, toN]
  | .d :: x => by simp only [comp, toN]; rw [comp_end x]
  | .k :: x => by simp only [toN, List.replicate_succ, comp]; rw [comp_end x]
  | .p c :: x => by simp only [toN, List.replicate_succ, comp]; rw [comp_end x]
theorem one_same : ∀ x : List At, one x (List.replicate (fromN x) .k) = x
  | [] => by simp [one, fromN]
  | .d :: x => by simp only [fromN, List.replicate_succ, one]; rw [one_same x]
  | .k :: x => by simp only [fromN, List.replicate_succ, one]; rw [one_same x]
  | .p c :: x => by simp only [fromN, one]; rw [one_same x]
theorem two_same : ∀ x : List At, two x (List.replicate (fromN x) .k) = List.replicate (toN x) .k
  | [] => by simp [two, fromN, toN]
  | .d :: x => by simp only [fromN, toN, List.replicate_succ, two]; rw [two_same x]
  | .k :: x => by simp only [fromN, toN, List.replicate_succ, two]; rw [two_same x]
  | .p c :: x => by simp only [fromN, toN, List.replicate_succ, two]; rw [two_same x]
end At
end Go.Proofs.YtonabfpgdgnpnaaDoor

namespace Go.Proofs.YtonabfpgdgnpnaaDoor
set_option linter.unusedVariables false
set_option linter.unusedSimpArgs false
open Go.ChangeShapes Go.WideShapes Go.ChangeAt Go.RowKit Go.Joins Go.Deep

open Classical in
/-- a text's code points -/
noncomputable def cpsOf (s : ByteArray) : List (List UInt8) := if h : ∃ cs, Tx s cs then Classical.choose h else []
theorem cpsOf_eq {s : ByteArray} {cs : List (List UInt8)} (h : Tx s cs) : cpsOf s = cs := by
  unfold cpsOf
  rw [dif_pos ⟨cs, h⟩]
  exact Tx.inj (Classical.choose_spec (p := fun cs => Tx s cs) ⟨cs, h⟩) h
noncomputable def atoms (p : Pt) : List At := if p.kind = 1 then List.replicate p.n.toNat .k else if p.kind = 3 then List.replicate p.n.toNat .d else (cpsOf p.text).map .p
noncomputable def atomsL : List Pt → List At
  | [] => []
  | p :: l => atoms p ++ atomsL l
theorem atomsL_append (l m : List Pt) : atomsL (l ++ m) = atomsL l ++ atomsL m := by
  induction l with
  | nil => rfl
  | cons p l ih => simp only [List.cons_append, atomsL, ih, List.append_assoc]
theorem atomsL_one (p : Pt) : atomsL [p] = atoms p := by simp [atomsL]
/-- a part that may be, of whatever length -/
def Good (p : Pt) : Prop := 1 ≤ p.n ∧ (p.kind = 1 ∧ p.text = ByteArray.empty ∨ p.kind = 3 ∧ p.text = ByteArray.empty ∨ p.kind = 2 ∧ ∃ cs, Tx p.text cs ∧ (cs.length : Int) = p.n)
theorem size_zero {s : ByteArray} (h : s.size = 0) : s = ByteArray.empty := ByteArray.ext (Array.toList_inj.1 (by
  rw [Lib.size_eq] at h
  rw [List.length_eq_zero_iff.1 h]
  rfl))
theorem good_of_fits {p : Pt} (h : fitsB p = true) : Good p ∧ p.n ≤ 1099511627776 := by
  obtain ⟨h1, h2, h3⟩ := fitsB_has h
  refine ⟨⟨h1, ?_⟩, h2⟩
  rcases h3 with h3 | h3 | h3
  · exact .inl ⟨h3.1, size_zero h3.2⟩
  · exact .inr (.inl ⟨h3.1, size_zero h3.2⟩)
  · obtain ⟨cs, hcs⟩ := tx_of_valid h3.2.1
    exact .inr (.inr ⟨h3.1, cs, hcs, by rw [← hcs.count]; exact h3.2.2⟩)
theorem fits_of_good {p : Pt} (h : Good p) (hn : p.n ≤ 1099511627776) : fitsB p = true := by
  obtain ⟨h1, h2⟩ := h
  unfold fitsB
  simp only [Bool.and_eq_true, Bool.or_eq_true, decide_eq_true_eq]
  refine ⟨⟨h1, hn⟩, ?_⟩
  rcases h2 with h2 | h2 | ⟨h2, cs, h3, h4⟩
  · exact .inl ⟨.inl h2.1, by rw [h2.2]; rfl⟩
  · exact .inl ⟨.inr h2.1, by rw [h2.2]; rfl⟩
  · exact .inr ⟨h2, h3.valid, by rw [h3.count]; exact h4⟩
theorem from_rep_k (n : Nat) : At.fromN (List.replicate n .k) = n := by induction n with | zero => rfl | succ n ih => rw [List.replicate_succ]; simp only [At.fromN, ih]
theorem from_rep_d (n : Nat) : At.fromN (List.replicate n .d) = n := by induction n with | zero => rfl | succ n ih => rw [List.replicate_succ]; simp only [At.fromN, ih]
theorem to_rep_k (n : Nat) : At.toN (List.replicate n .k) = n := by induction n with | zero => rfl | succ n ih => rw [List.replicate_succ]; simp only [At.toN, ih]
theorem to_rep_d (n : Nat) : At.toN (List.replicate n .d) = 0 := by induction n with | zero => rfl | succ n ih => rw [List.replicate_succ]; simp only [At.toN, ih]
theorem puts_rep_k (n : Nat) : At.putsN (List.replicate n .k) = 0 := by induction n with | zero => rfl | succ n ih => rw [List.replicate_succ]; simp only [At.putsN, ih]
theorem puts_rep_d (n : Nat) : At.putsN (List.replicate n .d) = 0 := by induction n with | zero => rfl | succ n ih => rw [List.replicate_succ]; simp only [At.putsN, ih]
theorem drops_rep_k (n : Nat) : At.dropsN (List.replicate n .k) = 0 := by induction n with | zero => rfl | succ n ih => rw [List.replicate_succ]; simp only [At.dropsN, ih]
theorem drops_rep_d (n : Nat) : At.dropsN (List.replicate n .d) = n := by induction n with | zero => rfl | succ n ih => rw [List.replicate_succ]; simp only [At.dropsN, ih]
theorem from_map (cs : List (List UInt8)) : At.fromN (cs.map .p) = 0 := by induction cs with | nil => rfl | cons c cs ih => simp only [List.map_cons, At.fromN, ih]
theorem to_map (cs : List (List UInt8)) : At.toN (cs.map .p) = cs.length := by induction cs with | nil => rfl | cons c cs ih => simp only [List.map_cons, At.toN, ih, List.length_cons]
theorem puts_map (cs : List (List UInt8)) : At.putsN (cs.map .p) = cs.length := by induction cs with | nil => rfl | cons c cs ih => simp only [List.map_cons, At.putsN, ih, List.length_cons]
theorem drops_map (cs : List (List UInt8)) : At.dropsN (cs.map .p) = 0 := by induction cs with | nil => rfl | cons c cs ih => simp only [List.map_cons, At.dropsN, ih]
/-- a good part is kept, dropped, or put -/
theorem Good.cases {p : Pt} (h : Good p) : (p.kind = 1 ∧ p.text = ByteArray.empty ∧ atoms p = List.replicate p.n.toNat .k) ∨ (p.kind = 3 ∧ p.text = ByteArray.empty ∧ atoms p = List.replicate p.n.toNat .d) ∨ (p.kind = 2 ∧ ∃ cs, Tx p.text cs ∧ (cs.length : Int) = p.n ∧ atoms p = cs.map .p) := by
  obtain ⟨h1, h2 | h2 | ⟨h2, cs, h3, h4⟩⟩ := h
  · exact .inl ⟨h2.1, h2.2, by unfold atoms; rw [if_pos h2.1]⟩
  · exact .inr (.inl ⟨h2.1, h2.2, by unfold atoms; rw [if_neg (by omega), if_pos h2.1]⟩)
  · exact .inr (.inr ⟨h2, cs, h3, h4, by unfold atoms; rw [if_neg (by omega), if_neg (by omega), cpsOf_eq h3]⟩)
theorem Good.len {p : Pt} (h : Good p) : ((atoms p).length : Int) = p.n ∧ (atoms p).length = p.n.toNat := by
  have h1 := h.1
  rcases h.cases with ⟨_, _, e⟩ | ⟨_, _, e⟩ | ⟨_, cs, _, h4, e⟩
  · rw [e, List.length_replicate]; omega
  · rw [e, List.length_replicate]; omega
  · rw [e, List.length_map]; omega
theorem Good.counts {p : Pt} (h : Good p) : (At.fromN (atoms p) : Int) = (if p.kind = 2 then 0 else p.n) ∧ (At.toN (atoms p) : Int) = (if p.kind = 3 then 0 else p.n) ∧ (At.putsN (atoms p) : Int) = (if p.kind = 2 then p.n else 0) ∧ (At.dropsN (atoms p) : Int) = (if p.kind = 3 then p.n else 0) := by
  have h1 := h.1
  rcases h.cases with ⟨k, _, e⟩ | ⟨k, _, e⟩ | ⟨k, cs, _, h4, e⟩
  · rw [e, from_rep_k, to_rep_k, puts_rep_k, drops_rep_k, k]; simp; omega
  · rw [e, from_rep_d, to_rep_d, puts_rep_d, drops_rep_d, k]; simp; omega
  · rw [e, from_map, to_map, puts_map, drops_map, k]; simp; omega
theorem Good.size {p : Pt} (h : Good p) : (p.text.size : Int) ≤ 4 * p.n := by
  have h1 := h.1
  rcases h.cases with ⟨_, e, _⟩ | ⟨_, e, _⟩ | ⟨_, cs, h3, h4, _⟩
  · rw [e]; simp; omega
  · rw [e]; simp; omega
  · have := h3.cps.most
    rw [← h3.size] at this
    omega
theorem Good.ne {p : Pt} (h : Good p) : atoms p ≠ [] := by
  intro e
  have := h.len
  have := h.1
  rw [e] at *
  simp at *
  omega
/-- parts in their one form, behind a part of that kind -/
def NfG : Int → List Pt → Prop
  | _, [] => True
  | last, p :: l => Good p ∧ p.kind ≠ last ∧ ¬ (p.kind = 2 ∧ last = 3) ∧ NfG p.kind l
def lastK : Int → List Pt → Int
  | a, [] => a
  | _, p :: l => lastK p.kind l
theorem NfG.append {l m : List Pt} : ∀ {a : Int}, NfG a l → NfG (lastK a l) m → NfG a (l ++ m) := by
  induction l with
  | nil => intro a h1 h2; exact h2
  | cons p l ih => intro a h1 h2; exact ⟨h1.1, h1.2.1, h1.2.2.1, ih h1.2.2.2 h2⟩
theorem lastK_append (l m : List Pt) : ∀ a, lastK a (l ++ m) = lastK (lastK a l) m := by
  induction l with
  | nil => intro a; rfl
  | cons p l ih => intro a; exact ih _
theorem NfG.good {l : List Pt} : ∀ {a : Int}, NfG a l → ∀ p ∈ l, Good p := by
  induction l with
  | nil => intro a h p hp; cases hp
  | cons q l ih =>
    intro a h p hp
    rcases List.mem_cons.1 hp with rfl | hp
    · exact h.1
    · exact ih h.2.2.2 p hp
theorem follows_iff (k l : Int) : followsB k l = true ↔ k ≠ l ∧ ¬ (k = 2 ∧ l = 3) := by
  unfold followsB
  by_cases h1 : k = 2 <;> by_cases h2 : l = 3 <;> simp [h1, h2]
theorem size_fold : ∀ (l : List Pt) (f0 t0 k0 f t k : Int), l.foldl sizeStep (some (f0, t0, k0)) = some (f, t, k) → NfG k0 l ∧ (∀ p ∈ l, fitsB p = true) ∧ f = f0 + At.fromN (atomsL l) ∧ t = t0 + At.toN (atomsL l) ∧ k = lastK k0 l
  | [], f0, t0, k0, f, t, k, h => by
    simp only [List.foldl_nil, Option.some.injEq, Prod.mk.injEq] at h
    obtain ⟨rfl, rfl, rfl⟩ := h
    exact ⟨trivial, (fun p hp => (List.not_mem_nil hp).elim), (by simp [atomsL, At.fromN]), (by simp [atomsL, At.toN]), rfl⟩
  | p :: l, f0, t0, k0, f, t, k, h => by
    rw [List.foldl_cons] at h
    have hnone : ∀ m : List Pt, m.foldl sizeStep none = none := by
      intro m
      induction m with
      | nil => rfl
      | cons p m ih => exact ih
    by_cases hc : fitsB p = true ∧ followsB p.kind k0 = true
    · by_cases hlim : 1099511627776 < (if p.kind = 2 then f0 else f0 + p.n) ∨ 1099511627776 < (if p.kind = 3 then t0 else t0 + p.n)
      · have e : sizeStep (some (f0, t0, k0)) p = none := by simp only [sizeStep]; rw [if_pos hc, if_pos hlim]
        rw [e, hnone] at h
        cases h
      · have e : sizeStep (some (f0, t0, k0)) p = some (if p.kind = 2 then f0 else f0 + p.n, if p.kind = 3 then t0 else t0 + p.n, p.kind) := by simp only [sizeStep]; rw [if_pos hc, if_neg hlim]
        rw [e] at h
        obtain ⟨h1, h2, h3, h4, h5⟩ := size_fold l _ _ _ _ _ _ h
        have hg := (good_of_fits hc.1).1
        have hf := (follows_iff _ _).1 hc.2
        have hcnt := hg.counts
        refine ⟨⟨hg, hf.1, hf.2, h1⟩, ?_, ?_, ?_, h5⟩
        · intro q hq
          rcases List.mem_cons.1 hq with rfl | hq
          · exact hc.1
          · exact h2 q hq
        · rw [h3, atomsL, At.from_app]
          have := hcnt.1
          push_cast
          split at this <;> rename_i hk
          · rw [if_pos hk]; omega
          · rw [if_neg hk]; omega
        · rw [h4, atomsL, At.to_app]
          have := hcnt.2.1
          push_cast
          split at this <;> rename_i hk
          · rw [if_pos hk]; omega
          · rw [if_neg hk]; omega
    · have e : sizeStep (some (f0, t0, k0)) p = none := by simp only [sizeStep]; rw [if_neg hc]
      rw [e, hnone] at h
      cases h
theorem fold_size : ∀ (l : List Pt) (f0 t0 k0 : Int), NfG k0 l → 0 ≤ f0 → 0 ≤ t0 → f0 + At.fromN (atomsL l) ≤ 1099511627776 → t0 + At.toN (atomsL l) ≤ 1099511627776 → l.foldl sizeStep (some (f0, t0, k0)) = some (f0 + At.fromN (atomsL l), t0 + At.toN (atomsL l), lastK k0 l)
  | [], f0, t0, k0, _, _, _, _, _ => by simp [atomsL, At.fromN, At.toN, lastK]
  | p :: l, f0, t0, k0, h, hf, ht, hF, hT => by
    obtain ⟨hg, h2, h3, h4⟩ := h
    have hcnt := hg.counts
    have hn := hg.1
    rw [atomsL, At.from_app] at hF
    rw [atomsL, At.to_app] at hT
    rw [atomsL, At.from_app, At.to_app]
    push_cast at hF hT ⊢
    have c1 := hcnt.1
    have c2 := hcnt.2.1
    have hle : p.n ≤ 1099511627776 := by
      rcases hg.cases with ⟨k, _⟩ | ⟨k, _⟩ | ⟨k, _⟩ <;> simp [k] at c1 c2 <;> omega
    have e : sizeStep (some (f0, t0, k0)) p = some (if p.kind = 2 then f0 else f0 + p.n, if p.kind = 3 then t0 else t0 + p.n, p.kind) := by
      simp only [sizeStep]
      rw [if_pos ⟨fits_of_good hg hle, (follows_iff _ _).2 ⟨h2, h3⟩⟩, if_neg]
      rcases hg.cases with ⟨k, _⟩ | ⟨k, _⟩ | ⟨k, _⟩ <;> simp [k] at c1 c2 ⊢ <;> omega
    rw [List.foldl_cons, e]
    have key := fold_size l (if p.kind = 2 then f0 else f0 + p.n) (if p.kind = 3 then t0 else t0 + p.n) p.kind h4 (by split <;> omega) (by split <;> omega) (by split at c1 <;> rename_i hk <;> simp [hk] <;> omega) (by split at c2 <;> rename_i hk <;> simp [hk] <;> omega)
    rw [key]
    simp only [Option.some.injEq, Prod.mk.injEq, lastK, and_true]
    constructor
    · split at c1 <;> rename_i hk <;> simp [hk] <;> omega
    · split at c2 <;> rename_i hk <;> simp [hk] <;> omega
/-- an edit: of so many, making so many -/
def IsEd (l : List Pt) (f t : Nat) : Prop := NfG 0 l ∧ At.fromN (atomsL l) = f ∧ At.toN (atomsL l) = t ∧ f ≤ 1099511627776 ∧ t ≤ 1099511627776
theorem size_ed {l : List Pt} {f t k : Int} (h : sizeL l = some (f, t, k)) : IsEd l f.toNat t.toNat ∧ (f.toNat : Int) = f ∧ (t.toNat : Int) = t := by
  have hb := sizeL_bounds l f t k h
  obtain ⟨h1, _, h3, h4, _⟩ := size_fold l _ _ _ _ _ _ h
  refine ⟨⟨h1, ?_, ?_, ?_, ?_⟩, ?_, ?_⟩ <;> omega
theorem ed_size {l : List Pt} {f t : Nat} (h : IsEd l f t) : sizeL l = some ((f : Int), (t : Int), lastK 0 l) := by
  obtain ⟨h1, h2, h3, h4, h5⟩ := h
  have := fold_size l 0 0 0 h1 (by omega) (by omega) (by omega) (by omega)
  unfold sizeL
  rw [this, h2, h3]
  simp
end Go.Proofs.YtonabfpgdgnpnaaDoor

namespace Go.Proofs.YtonabfpgdgnpnaaDoor
set_option linter.unusedVariables false
set_option linter.unusedSimpArgs false
open Go.ChangeShapes Go.WideShapes Go.ChangeAt Go.RowKit Go.Joins Go.Deep

theorem canG_rep_k (ps : List (List UInt8)) (m n : Nat) (y : List At) (hn : n ≠ 0) : At.canG ps m (List.replicate n .k ++ y) = ps.map .p ++ List.replicate m .d ++ (List.replicate n .k ++ At.canG [] 0 y) := by
  obtain ⟨n, rfl⟩ : ∃ k, n = k + 1 := ⟨n - 1, by omega⟩
  rw [List.replicate_succ, List.cons_append]
  simp only [At.canG]
  congr 1
  rw [List.cons_append]
  congr 1
  clear hn
  induction n with
  | zero => rfl
  | succ n ih =>
    rw [List.replicate_succ, List.cons_append]
    simp only [At.canG, List.map_nil, List.nil_append, List.replicate_zero]
    rw [ih]
    rfl
theorem canG_rep_d (ps : List (List UInt8)) (n : Nat) (y : List At) : ∀ m, At.canG ps m (List.replicate n .d ++ y) = At.canG ps (m + n) y := by
  induction n with
  | zero => intro m; rfl
  | succ n ih =>
    intro m
    rw [List.replicate_succ, List.cons_append]
    simp only [At.canG]
    rw [ih]
    congr 1
    omega
theorem canG_map (cs : List (List UInt8)) (m : Nat) (y : List At) : ∀ ps, At.canG ps m (cs.map .p ++ y) = At.canG (ps ++ cs) m y := by
  induction cs with
  | nil => intro ps; simp
  | cons c cs ih =>
    intro ps
    rw [List.map_cons, List.cons_append]
    simp only [At.canG]
    rw [ih]
    simp
theorem Tx.append {s t : ByteArray} {cs ds : List (List UInt8)} (h : Tx s cs) (k : Tx t ds) {u : ByteArray} (hu : u.data.toList = s.data.toList ++ t.data.toList) : Tx u (cs ++ ds) :=
  ⟨h.cps.append k.cps, by rw [hu, h.eq, k.eq, List.flatten_append]⟩
/-- what a state holds of the steps so far -/
structure Iv (st : St) (cs : List (List UInt8)) (x : List At) : Prop where
  nf : NfG 0 st.done
  k0 : 0 ≤ st.kept
  d0 : 0 ≤ st.drops
  tx : Tx ⟨st.text.toArray⟩ cs
  pn : (cs.length : Int) = st.puts
  can : ∀ y, At.canG [] 0 (x ++ y) = atomsL st.done ++ (List.replicate st.kept.toNat .k ++ At.canG cs st.drops.toNat y)
  kp : 0 < st.kept → st.puts = 0 ∧ st.drops = 0 ∧ lastK 0 st.done ≠ 1
  kz : st.kept = 0 → (st.done = [] ∨ lastK 0 st.done = 1) ∧ (st.puts = 0 ∧ st.drops = 0 → st.done = [])
  sum : st.kept + st.drops + st.puts ≤ (x.length : Int)
theorem plusN_sum {a b : Int} (h : a + b ≤ 9223372036854775807) : plusN a b = a + b := by
  unfold plusN
  rw [if_neg (by omega)]
theorem good_keep {n : Int} (h : 0 < n) : Good ⟨1, n, ByteArray.empty⟩ := ⟨by show 1 ≤ n; omega, .inl ⟨rfl, rfl⟩⟩
theorem good_drop {n : Int} (h : 0 < n) : Good ⟨3, n, ByteArray.empty⟩ := ⟨by show 1 ≤ n; omega, .inr (.inl ⟨rfl, rfl⟩)⟩
theorem atoms_keep (n : Int) (s : ByteArray) : atoms ⟨1, n, s⟩ = List.replicate n.toNat .k := by simp [atoms]
theorem atoms_drop (n : Int) (s : ByteArray) : atoms ⟨3, n, s⟩ = List.replicate n.toNat .d := by simp [atoms]
theorem atoms_put {n : Int} {s : ByteArray} {cs : List (List UInt8)} (h : Tx s cs) : atoms ⟨2, n, s⟩ = cs.map .p := by simp [atoms, cpsOf_eq h]
theorem nf_nil_text : Tx ⟨([] : List UInt8).toArray⟩ [] := ⟨Cps.nil, rfl⟩
/-- what is kept is put behind -/
theorem Iv.kends {st : St} {cs : List (List UInt8)} {x : List At} (h : Iv st cs x) : NfG 0 (endK st).done ∧ atomsL (endK st).done = atomsL st.done ++ List.replicate st.kept.toNat .k ∧ ((endK st).done = [] ∨ lastK 0 (endK st).done = 1) := by
  unfold endK
  simp only
  by_cases hk : 0 < st.kept
  · rw [if_pos hk]
    obtain ⟨h1, h2, h3⟩ := h.kp hk
    refine ⟨h.nf.append ⟨good_keep hk, (fun e => h3 e.symm), (fun e => absurd e.1 (by show ¬ ((1 : Int) = 2); omega)), trivial⟩, ?_, .inr ?_⟩
    · rw [atomsL_append, atomsL_one, atoms_keep]
    · rw [lastK_append]; rfl
  · rw [if_neg hk]
    have h0 : st.kept = 0 := by have := h.k0; omega
    exact ⟨h.nf, by rw [h0]; simp, (h.kz h0).1⟩
/-- the parts of a change -/
theorem change_nf {cs : List (List UInt8)} {text : List UInt8} {puts drops : Int} (tx : Tx ⟨text.toArray⟩ cs) (pn : (cs.length : Int) = puts) (d0 : 0 ≤ drops) {done : List Pt} (hnf : NfG 0 done) (hl : done = [] ∨ lastK 0 done = 1) :
    NfG 0 ((if 0 < puts then done ++ [⟨2, puts, ⟨text.toArray⟩⟩] else done) ++ (if 0 < drops then [⟨3, drops, ByteArray.empty⟩] else [])) ∧
    atomsL ((if 0 < puts then done ++ [⟨2, puts, ⟨text.toArray⟩⟩] else done) ++ (if 0 < drops then [⟨3, drops, ByteArray.empty⟩] else [])) = atomsL done ++ (cs.map .p ++ List.replicate drops.toNat .d) ∧
    (0 < puts ∨ 0 < drops → lastK 0 ((if 0 < puts then done ++ [⟨2, puts, ⟨text.toArray⟩⟩] else done) ++ (if 0 < drops then [⟨3, drops, ByteArray.empty⟩] else [])) ≠ 1) := by
  have hl0 : lastK 0 done = 0 ∨ lastK 0 done = 1 := by
    rcases hl with rfl | h
    · exact .inl rfl
    · exact .inr h
  by_cases hp : 0 < puts
  · rw [if_pos hp]
    have hg : Good ⟨2, puts, ⟨text.toArray⟩⟩ := ⟨by show 1 ≤ puts; omega, .inr (.inr ⟨rfl, cs, tx, pn⟩)⟩
    have n1 : NfG 0 (done ++ [⟨2, puts, ⟨text.toArray⟩⟩]) := hnf.append ⟨hg, by show (2 : Int) ≠ _; omega, by show ¬ ((2 : Int) = 2 ∧ _ = _); omega, trivial⟩
    have e1 : lastK 0 (done ++ [⟨2, puts, ⟨text.toArray⟩⟩]) = 2 := by rw [lastK_append]; rfl
    by_cases hd : 0 < drops
    · rw [if_pos hd]
      refine ⟨n1.append ⟨good_drop hd, by rw [e1]; show (3 : Int) ≠ 2; omega, by rw [e1]; show ¬ ((3 : Int) = 2 ∧ _); omega, trivial⟩, ?_, fun _ => ?_⟩
      · rw [atomsL_append, atomsL_append, atomsL_one, atomsL_one, atoms_put tx, atoms_drop, List.append_assoc]
      · rw [lastK_append]; show (3 : Int) ≠ 1; omega
    · rw [if_neg hd]
      have : drops = 0 := by omega
      refine ⟨by rw [List.append_nil]; exact n1, ?_, fun _ => ?_⟩
      · rw [List.append_nil, atomsL_append, atomsL_one, atoms_put tx, this]; simp
      · rw [List.append_nil, e1]; omega
  · rw [if_neg hp]
    have hc : cs = [] := List.length_eq_zero_iff.1 (by omega)
    by_cases hd : 0 < drops
    · rw [if_pos hd]
      refine ⟨hnf.append ⟨good_drop hd, by show (3 : Int) ≠ _; omega, by show ¬ ((3 : Int) = 2 ∧ _); omega, trivial⟩, ?_, fun _ => ?_⟩
      · rw [atomsL_append, atomsL_one, atoms_drop, hc]; simp
      · rw [lastK_append]; show (3 : Int) ≠ 1; omega
    · rw [if_neg hd]
      have : drops = 0 := by omega
      refine ⟨by rw [List.append_nil]; exact hnf, ?_, fun h => by omega⟩
      rw [List.append_nil, hc, this]; simp
theorem rep_add (a b : Nat) (s : At) : List.replicate a s ++ List.replicate b s = List.replicate (a + b) s := by
  rw [List.replicate_append_replicate]
theorem Iv.add {st : St} {cs : List (List UInt8)} {x : List At} (h : Iv st cs x) {p : Pt} (hg : Good p) (hb : ((x ++ atoms p).length : Int) ≤ 9223372036854775807) : ∃ cs', Iv (addS st p) cs' (x ++ atoms p) := by
  have hn := hg.1
  have hlen := hg.len.1
  have hsum := h.sum
  have hk0 := h.k0
  have hd0 := h.d0
  have hp0 : 0 ≤ st.puts := by rw [← h.pn]; omega
  rw [List.length_append] at hb
  push_cast at hb
  rcases hg.cases with ⟨k, _, ea⟩ | ⟨k, _, ea⟩ | ⟨k, ds, htx, hdl, ea⟩
  · have es : addS st p = ⟨(endC st).done, st.kept + p.n, 0, 0, []⟩ := by
      unfold addS
      rw [if_pos k, plusN_sum (by omega)]
    rw [es]
    refine ⟨[], ?_⟩
    have hnn : p.n.toNat ≠ 0 := by omega
    by_cases hk : 0 < st.kept
    · obtain ⟨q1, q2, q3⟩ := h.kp hk
      have hc : cs = [] := List.length_eq_zero_iff.1 (by have := h.pn; omega)
      have ed : (endC st).done = st.done := by
        unfold endC; simp only; rw [if_neg (by omega), if_neg (by omega), List.append_nil]
      refine ⟨by rw [ed]; exact h.nf, by show 0 ≤ st.kept + p.n; omega, by show (0 : Int) ≤ 0; omega, nf_nil_text, rfl, fun y => ?_, fun _ => ⟨rfl, rfl, by rw [ed]; exact q3⟩, fun e => ?_, by rw [List.length_append]; push_cast; show st.kept + p.n + 0 + 0 ≤ _; omega⟩
      · rw [List.append_assoc, h.can, ed, ea, hc, q2]
        simp only [Int.toNat_zero]
        rw [canG_rep_k _ _ _ _ hnn]
        simp only [List.map_nil, List.replicate_zero, List.nil_append, List.append_nil]
        rw [← List.append_assoc (List.replicate _ _), rep_add]
        congr 3
        omega
      · exfalso; have : st.kept + p.n = 0 := e; omega
    · have hz : st.kept = 0 := by omega
      obtain ⟨q1, q2⟩ := h.kz hz
      obtain ⟨c1, c2, c3⟩ := change_nf h.tx h.pn h.d0 h.nf q1
      have ed : (endC st).done = (if 0 < st.puts then st.done ++ [⟨2, st.puts, ⟨st.text.toArray⟩⟩] else st.done) ++ (if 0 < st.drops then [⟨3, st.drops, ByteArray.empty⟩] else []) := rfl
      refine ⟨by rw [ed]; exact c1, by show 0 ≤ st.kept + p.n; omega, by show (0 : Int) ≤ 0; omega, nf_nil_text, rfl, fun y => ?_, fun _ => ⟨rfl, rfl, ?_⟩, fun e => ?_, by rw [List.length_append]; push_cast; show st.kept + p.n + 0 + 0 ≤ _; omega⟩
      · rw [List.append_assoc, h.can, ed, c2, ea, hz]
        simp only [Int.toNat_zero, List.replicate_zero, List.nil_append, Int.zero_add]
        rw [canG_rep_k _ _ _ _ hnn]
        simp only [List.append_assoc]
      · rw [ed]
        by_cases hpd : 0 < st.puts ∨ 0 < st.drops
        · exact c3 hpd
        · have : st.done = [] := q2 ⟨by omega, by omega⟩
          rw [this, if_neg (by omega), if_neg (by omega)]
          show (0 : Int) ≠ 1
          omega
      · exfalso; have : st.kept + p.n = 0 := e; omega
  · have es : addS st p = ⟨(endK st).done, 0, st.drops + p.n, st.puts, st.text⟩ := by
      unfold addS
      rw [if_neg (by omega), if_pos k, plusN_sum (by omega)]
    obtain ⟨c1, c2, c3⟩ := h.kends
    rw [es]
    refine ⟨cs, c1, by show (0 : Int) ≤ 0; omega, by show 0 ≤ st.drops + p.n; omega, h.tx, h.pn, fun y => ?_, fun e => by have : (0 : Int) < 0 := e; omega, fun _ => ⟨c3, fun e => by have : st.drops + p.n = 0 := e.2; omega⟩, by rw [List.length_append]; push_cast; show 0 + (st.drops + p.n) + st.puts ≤ _; omega⟩
    rw [List.append_assoc, h.can, ea, canG_rep_d, c2]
    simp only [Int.toNat_zero, List.replicate_zero, List.nil_append, List.append_assoc]
    congr 3
    omega
  · have es : addS st p = ⟨(endK st).done, 0, st.drops, st.puts + p.n, st.text ++ p.text.data.toList⟩ := by
      unfold addS
      rw [if_neg (by omega), if_neg (by omega), plusN_sum (by omega)]
    obtain ⟨c1, c2, c3⟩ := h.kends
    rw [es]
    refine ⟨cs ++ ds, c1, by show (0 : Int) ≤ 0; omega, h.d0, h.tx.append htx (by simp), by rw [List.length_append]; push_cast; show _ = st.puts + p.n; have := h.pn; omega, fun y => ?_, fun e => by have : (0 : Int) < 0 := e; omega, fun _ => ⟨c3, fun e => by have : st.puts + p.n = 0 := e.1; omega⟩, by rw [List.length_append]; push_cast; show 0 + st.drops + (st.puts + p.n) ≤ _; omega⟩
    rw [List.append_assoc, h.can, ea, canG_map, c2]
    simp only [Int.toNat_zero, List.replicate_zero, List.nil_append, List.append_assoc]
theorem iv_start : Iv ⟨[], 0, 0, 0, []⟩ [] [] :=
  ⟨trivial, by show (0 : Int) ≤ 0; omega, by show (0 : Int) ≤ 0; omega, nf_nil_text, rfl, fun y => by simp [atomsL], fun e => by have : (0 : Int) < 0 := e; omega, fun _ => ⟨.inl rfl, fun _ => rfl⟩, by simp⟩
theorem iv_all {st : St} {cs : List (List UInt8)} {x : List At} (h : Iv st cs x) : NfG 0 (allS st) ∧ atomsL (allS st) = At.can x := by
  obtain ⟨c1, c2, c3⟩ := h.kends
  obtain ⟨d1, d2, d3⟩ := change_nf h.tx h.pn h.d0 c1 c3
  have e : allS st = (if 0 < st.puts then (endK st).done ++ [⟨2, st.puts, ⟨st.text.toArray⟩⟩] else (endK st).done) ++ (if 0 < st.drops then [⟨3, st.drops, ByteArray.empty⟩] else []) := rfl
  rw [e]
  refine ⟨d1, ?_⟩
  have := h.can []
  rw [List.append_nil] at this
  rw [d2, c2]
  unfold At.can
  rw [this]
  simp [At.canG]
theorem norm_fold : ∀ (l : List Pt) (st : St) (cs : List (List UInt8)) (x : List At), Iv st cs x → ((x ++ atomsL (l.filter fitsB)).length : Int) ≤ 9223372036854775807 → ∃ cs', Iv (l.foldl (fun st p => if fitsB p then addS st p else st) st) cs' (x ++ atomsL (l.filter fitsB))
  | [], st, cs, x, h, _ => ⟨cs, by simpa [atomsL] using h⟩
  | p :: l, st, cs, x, h, hb => by
    rw [List.foldl_cons]
    cases hf : fitsB p with
    | false =>
      rw [List.filter_cons_of_neg (by simp [hf])] at hb ⊢
      exact norm_fold l st cs x h hb
    | true =>
      rw [List.filter_cons_of_pos hf, atomsL, ← List.append_assoc] at hb ⊢
      obtain ⟨cs', h'⟩ := h.add (good_of_fits hf).1 (by rw [List.length_append] at hb; push_cast at hb; omega)
      exact norm_fold l _ cs' _ h' hb
/-- what Norm makes is in its one form, and by single steps it is what was handed in -/
theorem norm_good (l : List Pt) (hb : ((atomsL (l.filter fitsB)).length : Int) ≤ 9223372036854775807) : NfG 0 (normL l) ∧ atomsL (normL l) = At.can (atomsL (l.filter fitsB)) := by
  obtain ⟨cs, h⟩ := norm_fold l _ _ _ iv_start (by simpa using hb)
  exact iv_all h
/-- parts in their one form are canonical -/
theorem nf_canG : ∀ (l : List Pt) (last : Int) (ps : List (List UInt8)) (n : Nat), NfG last l → (n ≠ 0 → last = 3) → At.canG ps n (atomsL l) = ps.map .p ++ List.replicate n .d ++ atomsL l
  | [], last, ps, n, _, _ => by simp [atomsL, At.canG]
  | p :: l, last, ps, n, h, hn => by
    obtain ⟨hg, h2, h3, h4⟩ := h
    have h1 := hg.1
    rw [atomsL]
    rcases hg.cases with ⟨k, _, ea⟩ | ⟨k, _, ea⟩ | ⟨k, ds, htx, hdl, ea⟩
    · rw [ea, canG_rep_k _ _ _ _ (by omega), nf_canG l p.kind [] 0 h4 (fun e => absurd rfl e)]
      simp
    · have hz : n = 0 := by
        by_cases e : n = 0
        · exact e
        · have := hn e; omega
      subst hz
      rw [ea, canG_rep_d, nf_canG l p.kind ps _ h4 (fun _ => k)]
      simp
    · have hz : n = 0 := by
        by_cases e : n = 0
        · exact e
        · exact absurd ⟨k, hn e⟩ h3
      subst hz
      rw [ea, canG_map, nf_canG l p.kind _ 0 h4 (fun e => absurd rfl e)]
      simp
theorem nf_can {l : List Pt} (h : NfG 0 l) : At.can (atomsL l) = atomsL l := by
  have := nf_canG l 0 [] 0 h (fun e => absurd rfl e)
  simpa [At.can] using this
/-- a row does not begin so -/
def NotK (x : List At) : Prop := ∀ y, x ≠ .k :: y
def NotD (x : List At) : Prop := ∀ y, x ≠ .d :: y
def NotP (x : List At) : Prop := ∀ c y, x ≠ .p c :: y
theorem nf_notk {l : List Pt} (h : NfG 1 l) : NotK (atomsL l) := by
  cases l with
  | nil => intro y e; cases e
  | cons p l =>
    obtain ⟨hg, h2, _⟩ := h
    have h1 := hg.1
    intro y e
    rw [atomsL] at e
    rcases hg.cases with ⟨k, _⟩ | ⟨k, _, ea⟩ | ⟨k, ds, htx, hdl, ea⟩
    · exact h2 k
    · rw [ea, show p.n.toNat = (p.n.toNat - 1) + 1 by omega, List.replicate_succ, List.cons_append] at e
      cases e
    · cases ds with
      | nil => simp at hdl; omega
      | cons d ds => rw [ea, List.map_cons, List.cons_append] at e; cases e
theorem nf_notd {l : List Pt} (h : NfG 3 l) : NotD (atomsL l) := by
  cases l with
  | nil => intro y e; cases e
  | cons p l =>
    obtain ⟨hg, h2, _⟩ := h
    have h1 := hg.1
    intro y e
    rw [atomsL] at e
    rcases hg.cases with ⟨k, _, ea⟩ | ⟨k, _, ea⟩ | ⟨k, ds, htx, hdl, ea⟩
    · rw [ea, show p.n.toNat = (p.n.toNat - 1) + 1 by omega, List.replicate_succ, List.cons_append] at e
      cases e
    · exact h2 k
    · cases ds with
      | nil => simp at hdl; omega
      | cons d ds => rw [ea, List.map_cons, List.cons_append] at e; cases e
theorem nf_notp {l : List Pt} (h : NfG 2 l) : NotP (atomsL l) := by
  cases l with
  | nil => intro c y e; cases e
  | cons p l =>
    obtain ⟨hg, h2, _⟩ := h
    have h1 := hg.1
    intro c y e
    rw [atomsL] at e
    rcases hg.cases with ⟨k, _, ea⟩ | ⟨k, _, ea⟩ | ⟨k, ds, htx, hdl, ea⟩
    · rw [ea, show p.n.toNat = (p.n.toNat - 1) + 1 by omega, List.replicate_succ, List.cons_append] at e
      cases e
    · rw [ea, show p.n.toNat = (p.n.toNat - 1) + 1 by omega, List.replicate_succ, List.cons_append] at e
      cases e
    · exact h2 k
theorem run_k : ∀ {n m : Nat} {x y : List At}, NotK x → NotK y → List.replicate n .k ++ x = List.replicate m .k ++ y → n = m ∧ x = y
  | 0, 0, x, y, _, _, h => ⟨rfl, h⟩
  | 0, m + 1, x, y, hx, _, h => by rw [List.replicate_succ, List.cons_append] at h; exact absurd h (hx _)
  | n + 1, 0, x, y, _, hy, h => by rw [List.replicate_succ, List.cons_append] at h; exact absurd h.symm (hy _)
  | n + 1, m + 1, x, y, hx, hy, h => by
    rw [List.replicate_succ, List.replicate_succ, List.cons_append, List.cons_append] at h
    obtain ⟨e1, e2⟩ := run_k hx hy (List.cons.inj h).2
    exact ⟨by omega, e2⟩
theorem run_d : ∀ {n m : Nat} {x y : List At}, NotD x → NotD y → List.replicate n .d ++ x = List.replicate m .d ++ y → n = m ∧ x = y
  | 0, 0, x, y, _, _, h => ⟨rfl, h⟩
  | 0, m + 1, x, y, hx, _, h => by rw [List.replicate_succ, List.cons_append] at h; exact absurd h (hx _)
  | n + 1, 0, x, y, _, hy, h => by rw [List.replicate_succ, List.cons_append] at h; exact absurd h.symm (hy _)
  | n + 1, m + 1, x, y, hx, hy, h => by
    rw [List.replicate_succ, List.replicate_succ, List.cons_append, List.cons_append] at h
    obtain ⟨e1, e2⟩ := run_d hx hy (List.cons.inj h).2
    exact ⟨by omega, e2⟩
theorem run_p : ∀ {cs ds : List (List UInt8)} {x y : List At}, NotP x → NotP y → cs.map .p ++ x = ds.map .p ++ y → cs = ds ∧ x = y
  | [], [], x, y, _, _, h => ⟨rfl, h⟩
  | [], d :: ds, x, y, hx, _, h => by rw [List.map_cons, List.cons_append] at h; exact absurd h (hx _ _)
  | c :: cs, [], x, y, _, hy, h => by rw [List.map_cons, List.cons_append] at h; exact absurd h.symm (hy _ _)
  | c :: cs, d :: ds, x, y, hx, hy, h => by
    rw [List.map_cons, List.map_cons, List.cons_append, List.cons_append] at h
    obtain ⟨e0, e1⟩ := List.cons.inj h
    obtain ⟨e2, e3⟩ := run_p hx hy e1
    exact ⟨by rw [At.p.inj e0, e2], e3⟩
/-- there is one form -/
theorem nf_unique : ∀ (l m : List Pt) (a b : Int), NfG a l → NfG b m → atomsL l = atomsL m → l = m
  | [], [], _, _, _, _, _ => rfl
  | [], q :: m, _, _, _, hm, h => by
    rw [atomsL, atomsL] at h
    exact absurd (List.append_eq_nil_iff.1 h.symm).1 hm.1.ne
  | p :: l, [], _, _, hl, _, h => by
    rw [atomsL, atomsL] at h
    exact absurd (List.append_eq_nil_iff.1 h).1 hl.1.ne
  | p :: l, q :: m, a, b, hl, hm, h => by
    obtain ⟨g1, _, _, n1⟩ := hl
    obtain ⟨g2, _, _, n2⟩ := hm
    have l1 := g1.1
    have l2 := g2.1
    rw [atomsL, atomsL] at h
    obtain ⟨pk, pn, pt⟩ := p
    obtain ⟨qk, qn, qt⟩ := q
    simp only at l1 l2
    have one : ∀ n : Nat, 1 ≤ n → n = (n - 1) + 1 := fun n h => by omega
    rcases g1.cases with ⟨k1, t1, e1⟩ | ⟨k1, t1, e1⟩ | ⟨k1, cs, x1, c1, e1⟩ <;> rcases g2.cases with ⟨k2, t2, e2⟩ | ⟨k2, t2, e2⟩ | ⟨k2, ds, x2, c2, e2⟩ <;> simp only at k1 k2 <;> subst k1 k2
    · rw [e1, e2] at h
      obtain ⟨r1, r2⟩ := run_k (nf_notk n1) (nf_notk n2) h
      simp only at r1 t1 t2
      obtain rfl : pn = qn := by omega
      rw [t1, t2, nf_unique l m _ _ n1 n2 r2]
    · rw [e1, e2] at h
      simp only at h
      rw [one pn.toNat (by omega), one qn.toNat (by omega), List.replicate_succ, List.replicate_succ] at h
      cases h
    · rw [e1, e2] at h
      simp only at h c2
      cases ds with
      | nil => simp at c2; omega
      | cons d ds => rw [one pn.toNat (by omega), List.replicate_succ] at h; cases h
    · rw [e1, e2] at h
      simp only at h
      rw [one pn.toNat (by omega), one qn.toNat (by omega), List.replicate_succ, List.replicate_succ] at h
      cases h
    · rw [e1, e2] at h
      obtain ⟨r1, r2⟩ := run_d (nf_notd n1) (nf_notd n2) h
      simp only at r1 t1 t2
      obtain rfl : pn = qn := by omega
      rw [t1, t2, nf_unique l m _ _ n1 n2 r2]
    · rw [e1, e2] at h
      simp only at h c2
      cases ds with
      | nil => simp at c2; omega
      | cons d ds => rw [one pn.toNat (by omega), List.replicate_succ] at h; cases h
    · rw [e1, e2] at h
      simp only at h c1
      cases cs with
      | nil => simp at c1; omega
      | cons d ds => rw [one qn.toNat (by omega), List.replicate_succ] at h; cases h
    · rw [e1, e2] at h
      simp only at h c1
      cases cs with
      | nil => simp at c1; omega
      | cons d ds => rw [one qn.toNat (by omega), List.replicate_succ] at h; cases h
    · rw [e1, e2] at h
      obtain ⟨rfl, r2⟩ := run_p (nf_notp n1) (nf_notp n2) h
      simp only at c1 c2 x1 x2
      obtain rfl : pn = qn := by omega
      have ht : pt = qt := ByteArray.ext (Array.toList_inj.1 (x1.eq.trans x2.eq.symm))
      rw [ht, nf_unique l m _ _ n1 n2 r2]
end Go.Proofs.YtonabfpgdgnpnaaDoor
