/- How much is put and dropped. -/
import Derived.Test.YtonabfpgdgnpnaaDoorSam
import Derived.Test.YtonabfpgdgnpnaaDoorChk
namespace Go.Proofs.YtonabfpgdgnpnaaDoor
set_option linter.unusedVariables false
set_option linter.unusedSimpArgs false
open Go.ChangeShapes Go.WideShapes Go.ChangeAt Go.RowKit Go.Joins Go.Deep

def wStep (st : Option (Int × Int)) (p : Pt) : Option (Int × Int) := match st with
  | none => none
  | some (a, b) => if fitsB p = true then some (if p.kind = 2 then a + p.n else a, if p.kind = 3 then b + p.n else b) else none
def wL (l : List Pt) : Option (Int × Int) := l.foldl wStep (some (0, 0))
def wVal (l : List Pt) : Value := match wL l with
  | none => .tuple #[.int .i64 0, .int .i64 0]
  | some (a, b) => .tuple #[.int .i64 a, .int .i64 b]
theorem wL_take {l : List Pt} {i : Nat} {p : Pt} (h : l[i]? = some p) : wL (l.take (i + 1)) = wStep (wL (l.take i)) p := by
  unfold wL
  rw [List.take_add_one, h, List.foldl_append]
  rfl
theorem wL_none {l : List Pt} {i : Nat} (h : wL (l.take i) = none) : wL l = none := by
  have e : l = l.take i ++ l.drop i := (List.take_append_drop i l).symm
  have : ∀ (m : List Pt), m.foldl wStep none = none := by
    intro m
    induction m with
    | nil => rfl
    | cons p m ih => exact ih
  unfold wL at h ⊢
  rw [e, List.foldl_append, h, this]
set_option maxRecDepth 100000 in
set_option maxHeartbeats 4000000 in
theorem weight_any (a : Option Addr) (l : List Pt) (c : Nat) (w : World) (hT : UT w) (hp : PtsAt w a l) (hc : l.length ≤ 4000) (hs : ∀ p ∈ l, p.text.size ≤ 281474976710656) :
    Calls Tryd.prog 18 #[.slice a l.length c] w fun r w' => r = .returned (wVal l) ∧ Below w.heap.size w w' := by
  have HT := hide hT
  have HP := hide hp
  have HS := hide hs
  obtain ⟨n, hn⟩ : ∃ n, l.length = n := ⟨_, rfl⟩
  rw [hn] at hc ⊢
  have HN := hide hn
  have nI : (n : Int) ≤ 4000 := by omega
  clear hp hs hn hT
  go_enter Tryd.func18, Tryd.ntmps18
  go_wp2_with fail
  go_loopw [2, 3, 8] (fun f t i wr => ∃ k : Nat, k ≤ n ∧ i = .int .i64 (k : Int) ∧ (∃ fv tv : Int, f = .int .i64 fv ∧ t = .int .i64 tv ∧ 0 ≤ fv ∧ fv ≤ (k : Int) * 1099511627776 ∧ 0 ≤ tv ∧ tv ≤ (k : Int) * 1099511627776 ∧ Hid (wL (l.take k) = some (fv, tv))) ∧ Hid (Below w.heap.size w wr)) (fun _ _ i _ => ((n : Int) - intOf i).toNat)
  case atStart => exact ⟨0, by omega, by simp, ⟨0, 0, by simp, by simp, by omega, by simp, by omega, by simp, hide (by simp [wL])⟩, hide (Below.refl _ _)⟩
  case round =>
    obtain ⟨k, hk, rfl, ⟨fv, tv, rfl, rfl, b1, b2, b3, b4, HSZ⟩, HB⟩ := hrel
    by_cases hlt : k < n
    · have kI : (k : Int) < (n : Int) := by omega
      obtain ⟨p, hpk⟩ : ∃ p, l[k]? = some p := ⟨_, List.getElem?_eq_getElem (by have := unhide HN; omega)⟩
      obtain ⟨b, off, rfl, e0, e1, e2⟩ := (unhide HP).at_ (unhide HB) hpk
      have HST := hide (wL_take hpk)
      rw [unhide HSZ] at HST
      have hps := unhide HS p (List.mem_of_getElem? hpk)
      have hbA : Below wr.heap.size wr (wr.alloc (.cells #[.int .i64 p.kind, .int .i64 p.n, .string p.text] 39)) := (Below.refl _ _).alloc (Nat.le_refl _) _
      have HBA := hide ((unhide HB).trans (hbA.mono (unhide HB).size))
      have HRW := hide (RowAt.new wr 39 [.int .i64 p.kind, .int .i64 p.n, .string p.text])
      have HFI2 : Hid (Calls Tryd.prog 37 #[.agg #[.int .i64 p.kind, .int .i64 p.n, .string p.text]] (wr.alloc (.cells #[.int .i64 p.kind, .int .i64 p.n, .string p.text] 39)) fun r w' => r = .returned (.bool (fitsB p)) ∧ Below (wr.alloc (.cells #[.int .i64 p.kind, .int .i64 p.n, .string p.text] 39)).heap.size (wr.alloc (.cells #[.int .i64 p.kind, .int .i64 p.n, .string p.text] 39)) w') := hide (fits_any p _ ((unhide HT).call (unhide HBA)) hps)
      clear hpk hps hbA
      go_wp2_with fail
      obtain ⟨wA, hA⟩ : ∃ wA, wr.alloc (.cells #[.int .i64 p.kind, .int .i64 p.n, .string p.text] 39) = wA := ⟨_, rfl⟩
      rw [hA] at HBA HRW HFI2 ⊢
      clear hA HB e0 e1 e2
      obtain ⟨bb, hbb⟩ : ∃ bb, wr.heap.size = bb := ⟨_, rfl⟩
      rw [hbb] at HRW ⊢
      clear hbb
      refine Calls.mono (unhide HFI2) ?_
      rintro r w3 ⟨rfl, hb2⟩
      have HB3 := hide ((unhide HBA).trans (hb2.mono (unhide HBA).size))
      have HR2 := hide ((unhide HRW).below hb2 (unhide HRW).lt)
      clear hb2 HBA HRW HFI2
      have r0 : w3.cell? ⟨bb, 0, none⟩ = some (.int .i64 p.kind) := (unhide HR2).cell 0
      have r1 : w3.cell? ⟨bb, 1, none⟩ = some (.int .i64 p.n) := (unhide HR2).cell 1
      cases hfb : fitsB p with
      | false =>
        have HNO : Hid (wL (l.take (k + 1)) = none) := hide (by rw [unhide HST]; simp [wStep, hfb])
        clear hfb
        go_wp2_with fail
        go_ret2
        have hz := wL_none (unhide HNO)
        exact ⟨by unfold wVal; rw [hz]; rfl, unhide HB3⟩
      | true =>
        obtain ⟨n1, n2⟩ := fits_bounds hfb
        have HFB := hide hfb
        clear hfb
        by_cases k2 : p.kind = 2
        · rw [k2] at r0
          have K2 := hide k2
          have HNX : Hid (wL (l.take (k + 1)) = some (fv + p.n, tv)) := hide (by rw [unhide HST]; simp only [wStep]; rw [if_pos (unhide HFB)]; simp only [unhide K2, if_true, show ((2 : Int) = 3) = False from by simp, if_false])
          go_wp2_with fail
          refine Calls.mono (plus_any fv p.n w3 (by omega) (by omega) (by omega) (by omega)) ?_
          rintro r w4 ⟨rfl, rfl⟩
          rw [show plusN fv p.n = fv + p.n from by unfold plusN; rw [if_neg (by omega)]]
          go_wp2_with fail
          exact ⟨⟨k + 1, by omega, by simp, ⟨_, _, rfl, rfl, by omega, by push_cast; omega, by omega, by push_cast; omega, HNX⟩, HB3⟩, by simp [intOf]; omega⟩
        have k2b : (p.kind == 2) = false := by simp [k2]
        by_cases k3 : p.kind = 3
        · rw [k3] at r0
          have K3 := hide k3
          have HNX : Hid (wL (l.take (k + 1)) = some (fv, tv + p.n)) := hide (by rw [unhide HST]; simp only [wStep]; rw [if_pos (unhide HFB)]; simp only [unhide K3, if_true, show ((3 : Int) = 2) = False from by simp, if_false])
          go_wp2_with fail
          refine Calls.mono (plus_any tv p.n w3 (by omega) (by omega) (by omega) (by omega)) ?_
          rintro r w4 ⟨rfl, rfl⟩
          rw [show plusN tv p.n = tv + p.n from by unfold plusN; rw [if_neg (by omega)]]
          go_wp2_with fail
          exact ⟨⟨k + 1, by omega, by simp, ⟨_, _, rfl, rfl, by omega, by push_cast; omega, by omega, by push_cast; omega, HNX⟩, HB3⟩, by simp [intOf]; omega⟩
        have k3b : (p.kind == 3) = false := by simp [k3]
        have HNX : Hid (wL (l.take (k + 1)) = some (fv, tv)) := hide (by rw [unhide HST]; simp only [wStep]; rw [if_pos (unhide HFB)]; simp only [k2, k3, if_false])
        go_wp2_with fail
        exact ⟨⟨k + 1, by omega, by simp, ⟨_, _, rfl, rfl, by omega, by push_cast; omega, by omega, by push_cast; omega, HNX⟩, HB3⟩, by simp [intOf]; omega⟩
    · obtain rfl : n = k := by omega
      have kI : ¬ (n : Int) < (n : Int) := by omega
      have HE : Hid (wL l = some (fv, tv)) := hide (by have := unhide HSZ; rw [List.take_of_length_le (by rw [unhide HN]; exact Nat.le_refl _)] at this; exact this)
      go_wp2_with fail
      go_ret2
      exact ⟨by unfold wVal; rw [unhide HE]; rfl, unhide HB⟩
end Go.Proofs.YtonabfpgdgnpnaaDoor
