/- Parts in memory; the small functions over numbers. -/
import Derived.Test.YtonabfpgdgnpnaaDoorCnt
namespace Go.Proofs.YtonabfpgdgnpnaaDoor
set_option linter.unusedVariables false
set_option linter.unusedSimpArgs false
open Go.ChangeShapes Go.WideShapes Go.ChangeAt Go.RowKit Go.Joins

def Hid (p : Prop) : Prop := p
theorem hide {p : Prop} (h : p) : Hid p := h
theorem unhide {p : Prop} (h : Hid p) : p := h
/-- a part of an edit -/
structure Pt where
  kind : Int
  n : Int
  text : ByteArray
def pv (p : Pt) : Value := .agg #[.int .i64 p.kind, .int .i64 p.n, .string p.text]
def pcs (p : Pt) : List Value := [.int .i64 p.kind, .int .i64 p.n, .string p.text]
/-- these parts lie there -/
def PtsAt (w : World) (a : Option Addr) (l : List Pt) : Prop := l = [] ∨ ∃ b off, a = some ⟨b, off, none⟩ ∧ b < w.heap.size ∧ ∀ (i : Nat) p, l[i]? = some p →
  w.cell? ⟨b, off + i * 3, none⟩ = some (.int .i64 p.kind) ∧ w.cell? ⟨b, off + i * 3 + 1, none⟩ = some (.int .i64 p.n) ∧ w.cell? ⟨b, off + i * 3 + 2, none⟩ = some (.string p.text)
theorem PtsAt.call {w w' : World} {a : Option Addr} {l : List Pt} (h : PtsAt w a l) (hb : Below w.heap.size w w') : PtsAt w' a l := by
  rcases h with h | ⟨b, off, rfl, hlt, hc⟩
  · exact .inl h
  · refine .inr ⟨b, off, rfl, Nat.lt_of_lt_of_le hlt hb.size, fun i k hk => ?_⟩
    obtain ⟨q0, q1, q2⟩ := hc i k hk
    rw [hb.cell (p := ⟨b, _, none⟩) hlt, hb.cell (p := ⟨b, _, none⟩) hlt, hb.cell (p := ⟨b, _, none⟩) hlt]
    exact ⟨q0, q1, q2⟩
theorem PtsAt.at_ {w wr : World} {a : Option Addr} {l : List Pt} (h : PtsAt w a l) (hb : Below w.heap.size w wr) {i : Nat} {p : Pt} (hp : l[i]? = some p) : ∃ b off, a = some ⟨b, off, none⟩ ∧
    wr.cell? ⟨b, off + i * 3, none⟩ = some (.int .i64 p.kind) ∧ wr.cell? ⟨b, off + i * 3 + 1, none⟩ = some (.int .i64 p.n) ∧ wr.cell? ⟨b, off + i * 3 + 2, none⟩ = some (.string p.text) := by
  rcases h.call hb with h0 | ⟨b, off, rfl, hbl, hcs⟩
  · rw [h0] at hp; cases hp
  · exact ⟨b, off, rfl, hcs i p hp⟩
set_option maxRecDepth 100000 in
set_option maxHeartbeats 4000000 in
theorem follows_any (k l : Int) (w : World) : Calls Tryd.prog 81 #[.int .i64 k, .int .i64 l] w fun r w' => r = .returned (.bool (decide (k ≠ l) && !(decide (k = 2) && decide (l = 3)))) ∧ w = w' := by
  by_cases h0 : k = l
  · have hb : (k == l) = true := by simp [h0]
    have hn : (k != l) = false := by simp [h0]
    have hd : decide (k ≠ l) = false := by simp [h0]
    rw [hd]
    clear h0
    go_enter Tryd.func81, Tryd.ntmps81
    go_wp2_with fail
    go_ret
    exact ⟨rfl, rfl⟩
  · have hb : (k == l) = false := by simp [h0]
    have hn : (k != l) = true := by simp [h0]
    have hd : decide (k ≠ l) = true := by simp [h0]
    rw [hd]
    by_cases h2 : k = 2
    · subst h2
      by_cases h3 : l = 3
      · subst h3
        go_enter Tryd.func81, Tryd.ntmps81
        go_wp2_with fail
        go_ret
        exact ⟨rfl, rfl⟩
      · have h3b : (l == 3) = false := by simp [h3]
        have hd3 : decide (l = 3) = false := by simp [h3]
        rw [hd3]
        go_enter Tryd.func81, Tryd.ntmps81
        go_wp2_with fail
        go_ret
        exact ⟨rfl, rfl⟩
    · have h2b : (k == 2) = false := by simp [h2]
      have hd2 : decide (k = 2) = false := by simp [h2]
      rw [hd2]
      go_enter Tryd.func81, Tryd.ntmps81
      go_wp2_with fail
      go_ret
      exact ⟨rfl, rfl⟩
def plusN (a b : Int) : Int := if 9223372036854775807 - b < a then 9223372036854775807 else a + b
set_option maxRecDepth 100000 in
set_option maxHeartbeats 4000000 in
theorem plus_any (a b : Int) (w : World) (ha : 0 ≤ a) (ha2 : a ≤ 9223372036854775807) (hb : 0 ≤ b) (hb2 : b ≤ 9223372036854775807) : Calls Tryd.prog 38 #[.int .i64 a, .int .i64 b] w fun r w' => r = .returned (.int .i64 (plusN a b)) ∧ w = w' := by
  have e1 : wrap64 (9223372036854775807 - b) = 9223372036854775807 - b := by unfold wrap64; omega
  unfold plusN
  by_cases h : 9223372036854775807 - b < a
  · rw [if_pos h]
    go_enter Tryd.func38, Tryd.ntmps38
    go_wp2_with fail
    go_ret
    exact ⟨rfl, rfl⟩
  · rw [if_neg h]
    have h2 : a + b ≤ 9223372036854775807 := by omega
    go_enter Tryd.func38, Tryd.ntmps38
    go_wp2_with fail
    go_ret
    exact ⟨rfl, rfl⟩
set_option maxRecDepth 100000 in
set_option maxHeartbeats 4000000 in
theorem keep_any (n : Int) (w : World) : Calls Tryd.prog 66 #[.int .i64 n] w fun r w' => r = .returned (pv ⟨1, n, ByteArray.empty⟩) ∧ Below w.heap.size w w' := by
  go_enter Tryd.func66, Tryd.ntmps66
  go_wp2_with fail
  go_returns
  exact ⟨rfl, by go_grown⟩
set_option maxRecDepth 100000 in
set_option maxHeartbeats 4000000 in
theorem put_any (n : Int) (s : ByteArray) (w : World) : Calls Tryd.prog 90 #[.int .i64 n, .string s] w fun r w' => r = .returned (pv ⟨2, n, s⟩) ∧ Below w.heap.size w w' := by
  go_enter Tryd.func90, Tryd.ntmps90
  go_wp2_with fail
  go_returns
  exact ⟨rfl, by go_grown⟩
set_option maxRecDepth 100000 in
set_option maxHeartbeats 4000000 in
theorem drop_any (n : Int) (w : World) : Calls Tryd.prog 91 #[.int .i64 n] w fun r w' => r = .returned (pv ⟨3, n, ByteArray.empty⟩) ∧ Below w.heap.size w w' := by
  go_enter Tryd.func91, Tryd.ntmps91
  go_wp2_with fail
  go_returns
  exact ⟨rfl, by go_grown⟩
end Go.Proofs.YtonabfpgdgnpnaaDoor
