/- Check, isOf, Changes. -/
import Derived.Test.YtdnbhomjfgpcfaaDoorSiz
namespace Go.Proofs.YtdnbhomjfgpcfaaDoor
set_option linter.unusedVariables false
set_option linter.unusedSimpArgs false
open Go.ChangeShapes Go.WideShapes Go.ChangeAt Go.RowKit Go.Joins Go.Deep

def checkE (l : List Pt) (n : Int) : Int := match sizeL l with
  | none => 30
  | some (f, _, _) => if f = n then 0 else 30
set_option maxRecDepth 100000 in
set_option maxHeartbeats 4000000 in
theorem check_any (a : Option Addr) (l : List Pt) (c : Nat) (n : Int) (w : World) (hT : UT w) (hp : PtsAt w a l) (hc : l.length ≤ maxLen) (hs : ∀ p ∈ l, p.text.size ≤ 281474976710656) :
    Calls Tryd.prog 89 #[.slice a l.length c, .int .i64 n] w fun r w' => r = .returned (.int .i64 (checkE l n)) ∧ Below w.heap.size w w' := by
  have HS := hide (size_any a l c w hT hp hc hs)
  obtain ⟨m, hm⟩ : ∃ m, l.length = m := ⟨_, rfl⟩
  rw [hm] at HS ⊢
  clear hT hp hc hs hm
  unfold checkE
  unfold szVal at HS
  cases hz : sizeL l with
  | none =>
    rw [hz] at HS
    go_enter Tryd.func89, Tryd.ntmps89
    go_wp2_with fail
    refine Calls.mono (unhide HS) ?_
    rintro r w2 ⟨rfl, hb⟩
    have HB := hide hb
    clear hb
    go_wp2_with fail
    go_ret
    exact ⟨rfl, unhide HB⟩
  | some t =>
    obtain ⟨f, t, k⟩ := t
    rw [hz] at HS
    simp only at HS ⊢
    by_cases e : f = n
    · subst e
      rw [if_pos rfl]
      go_enter Tryd.func89, Tryd.ntmps89
      go_wp2_with fail
      refine Calls.mono (unhide HS) ?_
      rintro r w2 ⟨rfl, hb⟩
      have HB := hide hb
      clear hb
      go_wp2_with fail
      go_ret
      exact ⟨rfl, unhide HB⟩
    · rw [if_neg e]
      have e1 : (f == n) = false := by simp [e]
      have e2 : (f != n) = true := by simp [e]
      go_enter Tryd.func89, Tryd.ntmps89
      go_wp2_with fail
      refine Calls.mono (unhide HS) ?_
      rintro r w2 ⟨rfl, hb⟩
      have HB := hide hb
      clear hb
      go_wp2_with fail
      go_ret
      exact ⟨rfl, unhide HB⟩
/-- a part that is not kept -/
def changesB (l : List Pt) : Bool := l.any (fun p => decide (p.kind ≠ 1))
/-- is it an edit of this text? -/
def isOfB (l : List Pt) (s : ByteArray) : Bool := Lib.validD s.data.toList && decide (checkE l (Lib.runeCount s : Int) = 0)
set_option maxRecDepth 100000 in
set_option maxHeartbeats 4000000 in
theorem isOf_any (a : Option Addr) (l : List Pt) (c : Nat) (s : ByteArray) (w : World) (hT : UT w) (hp : PtsAt w a l) (hc : l.length ≤ maxLen) (hs : ∀ p ∈ l, p.text.size ≤ 281474976710656) (hs2 : s.size ≤ 281474976710656) :
    Calls Tryd.prog 80 #[.slice a l.length c, .string s] w fun r w' => r = .returned (.bool (isOfB l s)) ∧ Below w.heap.size w w' := by
  have HV := hide (valid_any s w hT (by omega))
  have HC : Hid (∀ W, Below w.heap.size w W → Calls Tryd.prog 39 #[.string s] W fun e w' => e = .returned (.int .i64 (Lib.runeCount s : Int)) ∧ Below W.heap.size W w') := hide (fun W hW => counts_any s W (by omega))
  have HK : Hid (∀ W, Below w.heap.size w W → Calls Tryd.prog 89 #[.slice a l.length c, .int .i64 (Lib.runeCount s : Int)] W fun r w' => r = .returned (.int .i64 (checkE l (Lib.runeCount s : Int))) ∧ Below W.heap.size W w') := hide (fun W hW => check_any a l c _ W (hT.call hW) (hp.call hW) hc hs)
  obtain ⟨n, hn⟩ : ∃ n, l.length = n := ⟨_, rfl⟩
  rw [hn] at HK ⊢
  unfold isOfB
  obtain ⟨e, he⟩ : ∃ e, checkE l (Lib.runeCount s : Int) = e := ⟨_, rfl⟩
  rw [he] at HK ⊢
  obtain ⟨m, hm⟩ : ∃ m, Lib.runeCount s = m := ⟨_, rfl⟩
  rw [hm] at HK HC
  obtain ⟨q, hq⟩ : ∃ q, Lib.validD s.data.toList = q := ⟨_, rfl⟩
  rw [hq] at HV ⊢
  clear hT hp hc hs hs2 hn he hm hq
  cases q with
  | false =>
    simp only [Bool.false_and]
    go_enter Tryd.func80, Tryd.ntmps80
    go_wp2_with fail
    refine Calls.mono (unhide HV) ?_
    rintro r w2 ⟨rfl, hb⟩
    have HB := hide hb
    clear hb
    go_wp2_with fail
    go_ret
    exact ⟨rfl, unhide HB⟩
  | true =>
    simp only [Bool.true_and]
    go_enter Tryd.func80, Tryd.ntmps80
    go_wp2_with fail
    refine Calls.mono (unhide HV) ?_
    rintro r w2 ⟨rfl, hb⟩
    have HB := hide hb
    clear hb
    go_wp2_with fail
    refine Calls.mono (unhide HC w2 (unhide HB)) ?_
    rintro r w3 ⟨rfl, hb⟩
    have HB3 := hide ((unhide HB).trans (hb.mono (unhide HB).size))
    clear hb
    go_wp2_with fail
    refine Calls.mono (unhide HK w3 (unhide HB3)) ?_
    rintro r w4 ⟨rfl, hb⟩
    have HB4 := hide ((unhide HB3).trans (hb.mono (unhide HB3).size))
    clear hb
    go_wp2_with fail
    go_ret
    refine ⟨?_, unhide HB4⟩
    by_cases h : e = 0 <;> simp [h] <;> rfl
end Go.Proofs.YtdnbhomjfgpcfaaDoor
