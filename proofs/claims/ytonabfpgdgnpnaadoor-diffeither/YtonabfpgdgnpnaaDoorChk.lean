/- Check, isOf, Changes. -/
import Derived.Test.YtonabfpgdgnpnaaDoorSiz
namespace Go.Proofs.YtonabfpgdgnpnaaDoor
set_option linter.unusedVariables false
set_option linter.unusedSimpArgs false
open Go.ChangeShapes Go.WideShapes Go.ChangeAt Go.RowKit Go.Joins Go.Deep

def checkE (l : List Pt) (n : Int) : Int := match sizeL l with
  | none => 30
  | some (f, _, _) => if f = n then 0 else 30
set_option maxRecDepth 100000 in
set_option maxHeartbeats 4000000 in
theorem check_any (a : Option Addr) (l : List Pt) (c : Nat) (n : Int) (w : World) (hT : UT w) (hp : PtsAt w a l) (hc : l.length ≤ maxLen) (hs : ∀ p ∈ l, p.text.size ≤ 281474976710656) :
    Calls Tryd.prog 59 #[.slice a l.length c, .int .i64 n] w fun r w' => r = .returned (.int .i64 (checkE l n)) ∧ Below w.heap.size w w' := by
  have HS := hide (size_any a l c w hT hp hc hs)
  obtain ⟨m, hm⟩ : ∃ m, l.length = m := ⟨_, rfl⟩
  rw [hm] at HS ⊢
  clear hT hp hc hs hm
  unfold checkE
  unfold szVal at HS
  cases hz : sizeL l with
  | none =>
    rw [hz] at HS
    go_enter Tryd.func59, Tryd.ntmps59
    go_wp2_with fail
    refine Calls.mono (unhide HS) ?_
    rintro r w2 ⟨rfl, hb⟩
    have HB := hide hb
    clear hb
    go_wp2_with fail
    go_ret
    exact ⟨rfl, unhide HB⟩
  | some t =>
    obtain ⟨f, t, k⟩ := t
    rw [hz] at HS
    simp only at HS ⊢
    by_cases e : f = n
    · subst e
      rw [if_pos rfl]
      go_enter Tryd.func59, Tryd.ntmps59
      go_wp2_with fail
      refine Calls.mono (unhide HS) ?_
      rintro r w2 ⟨rfl, hb⟩
      have HB := hide hb
      clear hb
      go_wp2_with fail
      go_ret
      exact ⟨rfl, unhide HB⟩
    · rw [if_neg e]
      have e1 : (f == n) = false := by simp [e]
      have e2 : (f != n) = true := by simp [e]
      go_enter Tryd.func59, Tryd.ntmps59
      go_wp2_with fail
      refine Calls.mono (unhide HS) ?_
      rintro r w2 ⟨rfl, hb⟩
      have HB := hide hb
      clear hb
      go_wp2_with fail
      go_ret
      exact ⟨rfl, unhide HB⟩
/-- a part that is not kept -/
def changesB (l : List Pt) : Bool := l.any (fun p => decide (p.kind ≠ 1))
set_option maxRecDepth 100000 in
set_option maxHeartbeats 4000000 in
theorem changes_any (a : Option Addr) (l : List Pt) (c : Nat) (w : World) (hp : PtsAt w a l) (hc : l.length ≤ maxLen) :
    Calls Tryd.prog 21 #[.slice a l.length c] w fun r w' => r = .returned (.bool (changesB l)) ∧ Below w.heap.size w w' := by
  have HP := hide hp
  obtain ⟨n, hn⟩ : ∃ n, l.length = n := ⟨_, rfl⟩
  rw [hn] at hc ⊢
  have HN := hide hn
  have nI : (n : Int) ≤ 9223372036854775807 := by unfold maxLen at hc; omega
  clear hp hn
  go_enter Tryd.func21, Tryd.ntmps21
  go_wp2_with fail
  go_loopw [7] (fun i wr => ∃ k : Nat, k ≤ n ∧ i = .int .i64 (k : Int) ∧ Hid (changesB (l.take k) = false) ∧ Hid (Below w.heap.size w wr)) (fun i _ => ((n : Int) - intOf i).toNat)
  case atStart => exact ⟨0, by omega, by simp, hide (by simp [changesB]), hide (Below.refl _ _)⟩
  case round =>
    obtain ⟨k, hk, rfl, HC, HB⟩ := hrel
    by_cases hlt : k < n
    · have kI : (k : Int) < (n : Int) := by omega
      obtain ⟨p, hpk⟩ : ∃ p, l[k]? = some p := ⟨_, List.getElem?_eq_getElem (by have := unhide HN; omega)⟩
      obtain ⟨b, off, rfl, e0, e1, e2⟩ := (unhide HP).at_ (unhide HB) hpk
      have HBA := hide ((unhide HB).alloc (unhide HB).size (.cells #[.int .i64 p.kind, .int .i64 p.n, .string p.text] 39))
      have HT : Hid (changesB (l.take (k + 1)) = (changesB (l.take k) || decide (p.kind ≠ 1))) := hide (by unfold changesB; rw [List.take_add_one, hpk, List.any_append]; simp)
      have HM := hide (List.mem_of_getElem? hpk)
      clear hpk
      by_cases k1 : p.kind = 1
      · rw [k1] at e0 HBA
        have HC2 : Hid (changesB (l.take (k + 1)) = false) := hide (by rw [unhide HT, unhide HC, k1]; rfl)
        clear k1 HT HC HM
        go_wp2_with fail
        exact ⟨⟨k + 1, by omega, by simp, HC2, HBA⟩, by simp [intOf]; omega⟩
      · have k1b : (p.kind == 1) = false := by simp [k1]
        have k1c : (p.kind != 1) = true := by simp [k1]
        have HC2 : Hid (changesB l = true) := hide (by unfold changesB; rw [List.any_eq_true]; exact ⟨p, unhide HM, by simp [k1]⟩)
        clear k1 HT HC HM
        go_wp2_with fail
        go_ret
        exact ⟨by rw [unhide HC2]; rfl, unhide HBA⟩
    · obtain rfl : n = k := by omega
      have kI : ¬ (n : Int) < (n : Int) := by omega
      have HC2 : Hid (changesB l = false) := hide (by have := unhide HC; rw [List.take_of_length_le (by rw [unhide HN]; exact Nat.le_refl _)] at this; exact this)
      go_wp2_with fail
      go_ret
      exact ⟨by rw [unhide HC2]; rfl, unhide HB⟩
/-- is it an edit of this text? -/
def isOfB (l : List Pt) (s : ByteArray) : Bool := Lib.validD s.data.toList && decide (checkE l (Lib.runeCount s : Int) = 0)
set_option maxRecDepth 100000 in
set_option maxHeartbeats 4000000 in
theorem isOf_any (a : Option Addr) (l : List Pt) (c : Nat) (s : ByteArray) (w : World) (hT : UT w) (hp : PtsAt w a l) (hc : l.length ≤ maxLen) (hs : ∀ p ∈ l, p.text.size ≤ 281474976710656) (hs2 : s.size ≤ 281474976710656) :
    Calls Tryd.prog 39 #[.slice a l.length c, .string s] w fun r w' => r = .returned (.bool (isOfB l s)) ∧ Below w.heap.size w w' := by
  have HV := hide (valid_any s w hT (by omega))
  have HC : Hid (∀ W, Below w.heap.size w W → Calls Tryd.prog 19 #[.string s] W fun e w' => e = .returned (.int .i64 (Lib.runeCount s : Int)) ∧ Below W.heap.size W w') := hide (fun W hW => counts_any s W (by omega))
  have HK : Hid (∀ W, Below w.heap.size w W → Calls Tryd.prog 59 #[.slice a l.length c, .int .i64 (Lib.runeCount s : Int)] W fun r w' => r = .returned (.int .i64 (checkE l (Lib.runeCount s : Int))) ∧ Below W.heap.size W w') := hide (fun W hW => check_any a l c _ W (hT.call hW) (hp.call hW) hc hs)
  obtain ⟨n, hn⟩ : ∃ n, l.length = n := ⟨_, rfl⟩
  rw [hn] at HK ⊢
  unfold isOfB
  obtain ⟨e, he⟩ : ∃ e, checkE l (Lib.runeCount s : Int) = e := ⟨_, rfl⟩
  rw [he] at HK ⊢
  obtain ⟨m, hm⟩ : ∃ m, Lib.runeCount s = m := ⟨_, rfl⟩
  rw [hm] at HK HC
  obtain ⟨q, hq⟩ : ∃ q, Lib.validD s.data.toList = q := ⟨_, rfl⟩
  rw [hq] at HV ⊢
  clear hT hp hc hs hs2 hn he hm hq
  cases q with
  | false =>
    simp only [Bool.false_and]
    go_enter Tryd.func39, Tryd.ntmps39
    go_wp2_with fail
    refine Calls.mono (unhide HV) ?_
    rintro r w2 ⟨rfl, hb⟩
    have HB := hide hb
    clear hb
    go_wp2_with fail
    go_ret
    exact ⟨rfl, unhide HB⟩
  | true =>
    simp only [Bool.true_and]
    go_enter Tryd.func39, Tryd.ntmps39
    go_wp2_with fail
    refine Calls.mono (unhide HV) ?_
    rintro r w2 ⟨rfl, hb⟩
    have HB := hide hb
    clear hb
    go_wp2_with fail
    refine Calls.mono (unhide HC w2 (unhide HB)) ?_
    rintro r w3 ⟨rfl, hb⟩
    have HB3 := hide ((unhide HB).trans (hb.mono (unhide HB).size))
    clear hb
    go_wp2_with fail
    refine Calls.mono (unhide HK w3 (unhide HB3)) ?_
    rintro r w4 ⟨rfl, hb⟩
    have HB4 := hide ((unhide HB3).trans (hb.mono (unhide HB3).size))
    clear hb
    go_wp2_with fail
    go_ret
    refine ⟨?_, unhide HB4⟩
    by_cases h : e = 0 <;> simp [h] <;> rfl
end Go.Proofs.YtonabfpgdgnpnaaDoor
