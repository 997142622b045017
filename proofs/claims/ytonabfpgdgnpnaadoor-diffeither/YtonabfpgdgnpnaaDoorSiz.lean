/- Size, Check, Changes, by parts. -/
import Derived.Test.YtonabfpgdgnpnaaDoorFit
namespace Go.Proofs.YtonabfpgdgnpnaaDoor
set_option linter.unusedVariables false
set_option linter.unusedSimpArgs false
open Go.ChangeShapes Go.WideShapes Go.ChangeAt Go.RowKit Go.Joins Go.Deep

def followsB (k l : Int) : Bool := decide (k ≠ l) && !(decide (k = 2) && decide (l = 3))
/-- from, to, the last part's kind: of the parts so far; none: they are no edit -/
def sizeStep (st : Option (Int × Int × Int)) (p : Pt) : Option (Int × Int × Int) := match st with
  | none => none
  | some (f, t, k) =>
    if fitsB p = true ∧ followsB p.kind k = true then
      (let f' := if p.kind = 2 then f else f + p.n
       let t' := if p.kind = 3 then t else t + p.n
       if 1099511627776 < f' ∨ 1099511627776 < t' then none else some (f', t', p.kind))
    else none
def sizeL (l : List Pt) : Option (Int × Int × Int) := l.foldl sizeStep (some (0, 0, 0))
theorem sizeL_take {l : List Pt} {i : Nat} {p : Pt} (h : l[i]? = some p) : sizeL (l.take (i + 1)) = sizeStep (sizeL (l.take i)) p := by
  unfold sizeL
  rw [List.take_add_one, h, List.foldl_append]
  rfl
theorem sizeL_none {l : List Pt} {i : Nat} (h : sizeL (l.take i) = none) : sizeL l = none := by
  have e : l = l.take i ++ l.drop i := (List.take_append_drop i l).symm
  have : ∀ (m : List Pt), m.foldl sizeStep none = none := by
    intro m
    induction m with
    | nil => rfl
    | cons p m ih => exact ih
  unfold sizeL at h ⊢
  rw [e, List.foldl_append, h, this]
theorem fits_bounds {p : Pt} (h : fitsB p = true) : 1 ≤ p.n ∧ p.n ≤ 1099511627776 := by
  unfold fitsB at h
  simp only [Bool.and_eq_true, decide_eq_true_eq] at h
  exact ⟨h.1.1, h.1.2⟩
theorem sizeL_bounds (l : List Pt) : ∀ f t k, sizeL l = some (f, t, k) → 0 ≤ f ∧ f ≤ 1099511627776 ∧ 0 ≤ t ∧ t ≤ 1099511627776 := by
  have : ∀ (m : List Pt) (st : Option (Int × Int × Int)), (∀ f t k, st = some (f, t, k) → 0 ≤ f ∧ f ≤ 1099511627776 ∧ 0 ≤ t ∧ t ≤ 1099511627776) → ∀ f t k, m.foldl sizeStep st = some (f, t, k) → 0 ≤ f ∧ f ≤ 1099511627776 ∧ 0 ≤ t ∧ t ≤ 1099511627776 := by
    intro m
    induction m with
    | nil => intro st h; exact h
    | cons p m ih =>
      intro st h
      refine ih _ ?_
      intro f t k e
      match st, h with
      | none, _ => cases e
      | some (f0, t0, k0), h =>
        obtain ⟨a1, a2, a3, a4⟩ := h f0 t0 k0 rfl
        simp only [sizeStep] at e
        by_cases hfit : fitsB p = true ∧ followsB p.kind k0 = true
        · rw [if_pos hfit] at e
          have hb := fits_bounds hfit.1
          by_cases hlim : 1099511627776 < (if p.kind = 2 then f0 else f0 + p.n) ∨ 1099511627776 < (if p.kind = 3 then t0 else t0 + p.n)
          · rw [if_pos hlim] at e; cases e
          · rw [if_neg hlim] at e
            simp only [Option.some.injEq, Prod.mk.injEq] at e
            obtain ⟨rfl, rfl, rfl⟩ := e
            refine ⟨?_, by omega, ?_, by omega⟩ <;> split <;> omega
        · rw [if_neg hfit] at e; cases e
  exact this l (some (0, 0, 0)) (fun f t k e => by simp at e; omega)
def szVal (l : List Pt) : Value := match sizeL l with
  | none => .tuple #[.int .i64 0, .int .i64 0, .int .i64 30]
  | some (f, t, _) => .tuple #[.int .i64 f, .int .i64 t, .int .i64 0]
set_option maxRecDepth 100000 in
set_option maxHeartbeats 4000000 in
theorem size_any (a : Option Addr) (l : List Pt) (c : Nat) (w : World) (hT : UT w) (hp : PtsAt w a l) (hc : l.length ≤ maxLen) (hs : ∀ p ∈ l, p.text.size ≤ 281474976710656) :
    Calls Tryd.prog 62 #[.slice a l.length c] w fun r w' => r = .returned (szVal l) ∧ Below w.heap.size w w' := by
  have HT := hide hT
  have HP := hide hp
  have HS := hide hs
  obtain ⟨n, hn⟩ : ∃ n, l.length = n := ⟨_, rfl⟩
  rw [hn] at hc ⊢
  have HN := hide hn
  have nI : (n : Int) ≤ 9223372036854775807 := by unfold maxLen at hc; omega
  clear hT hp hs hn
  go_enter Tryd.func62, Tryd.ntmps62
  go_wp2_with fail
  go_loopw [2, 3, 5, 10] (fun f t la i wr => ∃ k : Nat, k ≤ n ∧ i = .int .i64 (k : Int) ∧ (∃ fv tv lv : Int, f = .int .i64 fv ∧ t = .int .i64 tv ∧ la = .int .i64 lv ∧ Hid (sizeL (l.take k) = some (fv, tv, lv))) ∧ Hid (Below w.heap.size w wr)) (fun _ _ _ i _ => ((n : Int) - intOf i).toNat)
  case atStart => exact ⟨0, by omega, by simp, ⟨0, 0, 0, by simp, by simp, by simp, hide (by simp [sizeL])⟩, hide (Below.refl _ _)⟩
  case round =>
    obtain ⟨k, hk, rfl, ⟨fv, tv, lv, rfl, rfl, rfl, HSZ⟩, HB⟩ := hrel
    by_cases hlt : k < n
    · have kI : (k : Int) < (n : Int) := by omega
      obtain ⟨p, hpk⟩ : ∃ p, l[k]? = some p := ⟨_, List.getElem?_eq_getElem (by have := unhide HN; omega)⟩
      obtain ⟨b, off, rfl, e0, e1, e2⟩ := (unhide HP).at_ (unhide HB) hpk
      have HST := hide (sizeL_take hpk)
      rw [unhide HSZ] at HST
      obtain ⟨b1, b2, b3, b4⟩ := sizeL_bounds _ _ _ _ (unhide HSZ)
      have hps := unhide HS p (List.mem_of_getElem? hpk)
      have hbA : Below wr.heap.size wr (wr.alloc (.cells #[.int .i64 p.kind, .int .i64 p.n, .string p.text] 39)) := (Below.refl _ _).alloc (Nat.le_refl _) _
      have HBA := hide ((unhide HB).trans (hbA.mono (unhide HB).size))
      have HRW := hide (RowAt.new wr 39 [.int .i64 p.kind, .int .i64 p.n, .string p.text])
      have HFI : Hid (∀ W, Below (wr.alloc (.cells #[.int .i64 p.kind, .int .i64 p.n, .string p.text] 39)).heap.size (wr.alloc (.cells #[.int .i64 p.kind, .int .i64 p.n, .string p.text] 39)) W → Calls Tryd.prog 37 #[.agg #[.int .i64 p.kind, .int .i64 p.n, .string p.text]] W fun r w' => r = .returned (.bool (fitsB p)) ∧ Below W.heap.size W w') := hide (fun W hW => fits_any p W (((unhide HT).call (unhide HBA)).call hW) hps)
      clear hpk hps hbA
      go_wp2_with fail
      obtain ⟨wA, hA⟩ : ∃ wA, wr.alloc (.cells #[.int .i64 p.kind, .int .i64 p.n, .string p.text] 39) = wA := ⟨_, rfl⟩
      have HFI2 := hide (unhide HFI _ (Below.refl _ _))
      rw [hA] at HBA HRW HFI2 ⊢
      clear hA HFI HB e0 e1 e2
      obtain ⟨bb, hbb⟩ : ∃ bb, wr.heap.size = bb := ⟨_, rfl⟩
      rw [hbb] at HRW ⊢
      clear hbb
      refine Calls.mono (unhide HFI2) ?_
      rintro r w2 ⟨rfl, hb2⟩
      have HB2 := hide ((unhide HBA).trans (hb2.mono (unhide HBA).size))
      have HR2 := hide ((unhide HRW).below hb2 (unhide HRW).lt)
      clear hb2 HBA HRW HFI2
      have r0 : w2.cell? ⟨bb, 0, none⟩ = some (.int .i64 p.kind) := (unhide HR2).cell 0
      have r1 : w2.cell? ⟨bb, 1, none⟩ = some (.int .i64 p.n) := (unhide HR2).cell 1
      cases hfb : fitsB p with
      | false =>
        have HNO : Hid (sizeL (l.take (k + 1)) = none) := hide (by rw [unhide HST]; simp [sizeStep, hfb])
        have HBX := HB2
        clear hfb
        go_wp2_with fail
        go_ret3
        have hz := sizeL_none (unhide HNO)
        exact ⟨by unfold szVal; rw [hz]; rfl, unhide HBX⟩
      | true =>
        obtain ⟨n1, n2⟩ := fits_bounds hfb
        have HFB := hide hfb
        clear hfb
        go_wp2_with fail
        refine Calls.mono (follows_any p.kind lv w2) ?_
        rintro r w3 ⟨rfl, rfl⟩
        rw [show (decide (p.kind ≠ lv) && !(decide (p.kind = 2) && decide (lv = 3))) = followsB p.kind lv from rfl]
        cases hfo : followsB p.kind lv with
        | false =>
          have HNO : Hid (sizeL (l.take (k + 1)) = none) := hide (by rw [unhide HST]; simp [sizeStep, hfo])
          have HBX := HB2
          clear hfo
          go_wp2_with fail
          go_ret3
          have hz := sizeL_none (unhide HNO)
          exact ⟨by unfold szVal; rw [hz]; rfl, unhide HBX⟩
        | true =>
          have HFO := hide hfo
          have HB3 := HB2
          clear hfo HB2
          by_cases k2 : p.kind = 2
          · rw [k2] at r0
            have K2 := hide k2
            by_cases hA : 1099511627776 < fv
            · exfalso; omega
            by_cases hB : 1099511627776 < tv + p.n
            · have HNO : Hid (sizeL (l.take (k + 1)) = none) := hide (by rw [unhide HST]; simp only [sizeStep]; rw [if_pos ⟨unhide HFB, unhide HFO⟩]; simp only [unhide K2, if_true, show ((2 : Int) = 3) = False from by simp, if_false]; rw [if_pos (.inr hB)])
              have HBX := HB3
              go_wp2_with fail
              go_ret3
              have hz := sizeL_none (unhide HNO)
              exact ⟨by unfold szVal; rw [hz]; rfl, unhide HBX⟩
            have HNX : Hid (sizeL (l.take (k + 1)) = some (fv, tv + p.n, p.kind)) := hide (by rw [unhide HST]; simp only [sizeStep]; rw [if_pos ⟨unhide HFB, unhide HFO⟩]; simp only [unhide K2, if_true, show ((2 : Int) = 3) = False from by simp, if_false]; rw [if_neg (by omega)])
            go_wp2_with fail
            exact ⟨⟨k + 1, by omega, by simp, ⟨_, _, _, rfl, rfl, rfl, hide (by rw [← unhide K2]; exact unhide HNX)⟩, HB3⟩, by simp [intOf]; omega⟩
          have k2b : (p.kind == 2) = false := by simp [k2]
          by_cases k3 : p.kind = 3
          · rw [k3] at r0
            have K3 := hide k3
            by_cases hA : 1099511627776 < fv + p.n
            · have HNO : Hid (sizeL (l.take (k + 1)) = none) := hide (by rw [unhide HST]; simp only [sizeStep]; rw [if_pos ⟨unhide HFB, unhide HFO⟩]; simp only [unhide K3, if_true, show ((3 : Int) = 2) = False from by simp, if_false]; rw [if_pos (.inl hA)])
              have HBX := HB3
              go_wp2_with fail
              go_ret3
              have hz := sizeL_none (unhide HNO)
              exact ⟨by unfold szVal; rw [hz]; rfl, unhide HBX⟩
            by_cases hB : 1099511627776 < tv
            · exfalso; omega
            have HNX : Hid (sizeL (l.take (k + 1)) = some (fv + p.n, tv, p.kind)) := hide (by rw [unhide HST]; simp only [sizeStep]; rw [if_pos ⟨unhide HFB, unhide HFO⟩]; simp only [unhide K3, if_true, show ((3 : Int) = 2) = False from by simp, if_false]; rw [if_neg (by omega)])
            go_wp2_with fail
            exact ⟨⟨k + 1, by omega, by simp, ⟨_, _, _, rfl, rfl, rfl, hide (by rw [← unhide K3]; exact unhide HNX)⟩, HB3⟩, by simp [intOf]; omega⟩
          have k3b : (p.kind == 3) = false := by simp [k3]
          by_cases hA : 1099511627776 < fv + p.n
          · have HNO : Hid (sizeL (l.take (k + 1)) = none) := hide (by rw [unhide HST]; simp only [sizeStep]; rw [if_pos ⟨unhide HFB, unhide HFO⟩]; simp only [k2, k3, if_false]; rw [if_pos (.inl hA)])
            have HBX := HB3
            go_wp2_with fail
            go_ret3
            have hz := sizeL_none (unhide HNO)
            exact ⟨by unfold szVal; rw [hz]; rfl, unhide HBX⟩
          by_cases hB : 1099511627776 < tv + p.n
          · have HNO : Hid (sizeL (l.take (k + 1)) = none) := hide (by rw [unhide HST]; simp only [sizeStep]; rw [if_pos ⟨unhide HFB, unhide HFO⟩]; simp only [k2, k3, if_false]; rw [if_pos (.inr hB)])
            have HBX := HB3
            go_wp2_with fail
            go_ret3
            have hz := sizeL_none (unhide HNO)
            exact ⟨by unfold szVal; rw [hz]; rfl, unhide HBX⟩
          have HNX : Hid (sizeL (l.take (k + 1)) = some (fv + p.n, tv + p.n, p.kind)) := hide (by rw [unhide HST]; simp only [sizeStep]; rw [if_pos ⟨unhide HFB, unhide HFO⟩]; simp only [k2, k3, if_false]; rw [if_neg (by omega)])
          go_wp2_with fail
          exact ⟨⟨k + 1, by omega, by simp, ⟨_, _, _, rfl, rfl, rfl, HNX⟩, HB3⟩, by simp [intOf]; omega⟩
    · obtain rfl : n = k := by omega
      have kI : ¬ (n : Int) < (n : Int) := by omega
      have HE : Hid (sizeL l = some (fv, tv, lv)) := hide (by have := unhide HSZ; rw [List.take_of_length_le (by rw [unhide HN]; exact Nat.le_refl _)] at this; exact this)
      go_wp2_with fail
      go_ret3
      exact ⟨by unfold szVal; rw [unhide HE]; rfl, unhide HB⟩
end Go.Proofs.YtonabfpgdgnpnaaDoor
