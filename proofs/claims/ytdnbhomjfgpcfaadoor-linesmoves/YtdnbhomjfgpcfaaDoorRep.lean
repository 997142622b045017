/- Replace, Same. -/
import Derived.Test.YtdnbhomjfgpcfaaDoorNrm
namespace Go.Proofs.YtdnbhomjfgpcfaaDoor
set_option linter.unusedVariables false
set_option linter.unusedSimpArgs false
open Go.ChangeShapes Go.WideShapes Go.ChangeAt Go.RowKit Go.Joins Go.Deep

theorem Cps.len {cs : List (List UInt8)} (h : Cps cs) : cs.length ≤ cs.flatten.length := by
  induction cs with
  | nil => simp
  | cons c cs ih =>
    have h1 := List.length_pos_iff.2 h.head.ne
    have h2 := ih h.tail
    simp only [List.length_cons, List.flatten_cons, List.length_append]
    omega
theorem Cp.four {c : List UInt8} (h : Cp c) : c.length ≤ 4 := by
  rw [← h.all, Lib.decodeL_N]
  unfold Lib.decodeN
  repeat' split
  all_goals simp
theorem Cps.most {cs : List (List UInt8)} (h : Cps cs) : cs.flatten.length ≤ 4 * cs.length := by
  induction cs with
  | nil => simp
  | cons c cs ih =>
    have h1 := h.head.four
    have h2 := ih h.tail
    simp only [List.length_cons, List.flatten_cons, List.length_append]
    omega
/-- these parts are an own row -/
def OwnP (w : World) (B : Nat) (v : Value) (l : List Pt) : Prop := w.ownsRow B 91 3 v l.length (ptc l)
theorem OwnP.call {w w' : World} {B : Nat} {v : Value} {l : List Pt} (h : OwnP w B v l) (hb : Below w.heap.size w w') : OwnP w' B v l := own_call h hb
theorem OwnP.nil (w : World) (B : Nat) : OwnP w B (.slice none 0 0) [] := World.ownsRow_nil _ _ _ _
theorem OwnP.slice {w : World} {B : Nat} {v : Value} {l : List Pt} (h : OwnP w B v l) : ∃ a c, v = .slice a l.length c ∧ PtsAt w a l ∧ l.length ≤ c ∧ c ≤ maxLen := by
  rcases h.2 with ⟨rfl, h0⟩ | ⟨g, cap, cur, rfl, h1, h2, h3, h4, h5, h6⟩
  · exact ⟨none, 0, by rw [h0], .inl (List.length_eq_zero_iff.1 h0), by omega, by unfold maxLen; omega⟩
  · refine ⟨_, _, rfl, ?_, h3, h4⟩
    by_cases hl : l = []
    · exact .inl hl
    · refine .inr ⟨g, 0, rfl, (Array.getElem?_eq_some_iff.1 h2).1, fun i p hp => ?_⟩
      obtain ⟨q0, q1, q2⟩ := ptc_at l i p hp
      have hc : ∀ j u, (ptc l)[j]? = some u → w.cell? ⟨g, j, none⟩ = some u := fun j u hu => by
        have := World.ownsRow.cells h (g := g) rfl j u hu
        simpa [Addr.add_lit] using this
      rw [Nat.zero_add]
      exact ⟨hc _ _ q0, hc _ _ q1, hc _ _ q2⟩
theorem own_base {w : World} {b b' s n : Nat} {e : TypeId} {v : Value} {xs : List Value} (h : w.ownsRow b e s v n xs) (hb : b' ≤ b) : w.ownsRow b' e s v n xs := by
  obtain ⟨h1, h2⟩ := h
  refine ⟨h1, ?_⟩
  rcases h2 with h2 | ⟨g, cap, cur, e1, e2, e3⟩
  · exact .inl h2
  · exact .inr ⟨g, cap, cur, e1, Nat.le_trans hb e2, e3⟩
theorem row_pts {w : World} {g : Nat} {l : List Pt} (h : RowAt w g 91 (ptc l)) : PtsAt w (some ⟨g, 0, none⟩) l := by
  refine .inr ⟨g, 0, rfl, h.lt, fun i p hp => ?_⟩
  obtain ⟨q0, q1, q2⟩ := ptc_at l i p hp
  rw [Nat.zero_add, h.cell, h.cell, h.cell]
  exact ⟨q0, q1, q2⟩
/-- may a stretch become a text? -/
def repB (n at_ k : Int) (s : ByteArray) : Bool := (decide (0 ≤ n) && decide (n ≤ 1099511627776)) && ((decide (0 ≤ at_) && decide (at_ ≤ n)) && ((decide (0 ≤ k) && decide (k ≤ n - at_)) && (Lib.validD s.data.toList && decide ((Lib.runeCount s : Int) ≤ 1099511627776 - n))))
def repL (n at_ k : Int) (s : ByteArray) : List Pt := normL [⟨1, at_, ByteArray.empty⟩, ⟨2, (Lib.runeCount s : Int), s⟩, ⟨3, k, ByteArray.empty⟩, ⟨1, n - at_ - k, ByteArray.empty⟩]
def RepR (w w' : World) (n at_ k : Int) (s : ByteArray) (r : Ending) : Prop := (repB n at_ k s = false ∧ r = .returned (.tuple #[.slice none 0 0, .int .i64 30]) ∨ repB n at_ k s = true ∧ ∃ v, r = .returned (.tuple #[v, .int .i64 0]) ∧ OwnP w' w.heap.size v (repL n at_ k s)) ∧ Below w.heap.size w w'
set_option maxRecDepth 100000 in
set_option maxHeartbeats 4000000 in
theorem replace_any (n at_ k : Int) (s : ByteArray) (w : World) (hT : UT w) (hs : s.size ≤ 140737488355328) (hn : -9223372036854775808 ≤ n) (hn2 : n ≤ 9223372036854775807) :
    Calls Tryd.prog 62 #[.int .i64 n, .int .i64 at_, .int .i64 k, .string s] w fun r w' => RepR w w' n at_ k s r := by
  have HW1 := hide (within_any n 1099511627776 w)
  have HW2 := hide (within_any at_ n w)
  have HS := hide hs
  have HT := hide hT
  have HB0 := hide (Below.refl w.heap.size w)
  clear hT hs
  unfold RepR
  cases h1 : (decide (0 ≤ n) && decide (n ≤ 1099511627776)) with
  | false =>
    rw [h1] at HW1
    have HF : Hid (repB n at_ k s = false) := hide (by unfold repB; rw [h1]; rfl)
    clear h1
    go_enter Tryd.func62, Tryd.ntmps62
    go_wp2_with fail
    refine Calls.mono (unhide HW1) ?_
    rintro r w1 ⟨rfl, rfl⟩
    go_wp2_with fail
    go_ret2
    exact ⟨.inl ⟨unhide HF, rfl⟩, unhide HB0⟩
  | true =>
    rw [h1] at HW1
    have hn0 : 0 ≤ n ∧ n ≤ 1099511627776 := by simpa using h1
    cases h2 : (decide (0 ≤ at_) && decide (at_ ≤ n)) with
    | false =>
      rw [h2] at HW2
      have HF : Hid (repB n at_ k s = false) := hide (by unfold repB; rw [h1, h2]; rfl)
      clear h1 h2
      go_enter Tryd.func62, Tryd.ntmps62
      go_wp2_with fail
      refine Calls.mono (unhide HW1) ?_
      rintro r w1 ⟨rfl, rfl⟩
      go_wp2_with fail
      refine Calls.mono (unhide HW2) ?_
      rintro r w1 ⟨rfl, rfl⟩
      go_wp2_with fail
      go_ret2
      exact ⟨.inl ⟨unhide HF, rfl⟩, unhide HB0⟩
    | true =>
      rw [h2] at HW2
      have ha0 : 0 ≤ at_ ∧ at_ ≤ n := by simpa using h2
      have HW3 := hide (within_any k (n - at_) w)
      have e1 : wrap64 (n - at_) = n - at_ := by unfold wrap64; omega
      cases h3 : (decide (0 ≤ k) && decide (k ≤ n - at_)) with
      | false =>
        rw [h3] at HW3
        have HF : Hid (repB n at_ k s = false) := hide (by unfold repB; rw [h1, h2, h3]; rfl)
        clear h1 h2 h3
        go_enter Tryd.func62, Tryd.ntmps62
        go_wp2_with fail
        refine Calls.mono (unhide HW1) ?_
        rintro r w1 ⟨rfl, rfl⟩
        go_wp2_with fail
        refine Calls.mono (unhide HW2) ?_
        rintro r w1 ⟨rfl, rfl⟩
        go_wp2_with fail
        refine Calls.mono (unhide HW3) ?_
        rintro r w1 ⟨rfl, rfl⟩
        go_wp2_with fail
        go_ret2
        exact ⟨.inl ⟨unhide HF, rfl⟩, unhide HB0⟩
      | true =>
        rw [h3] at HW3
        have hk0 : 0 ≤ k ∧ k ≤ n - at_ := by simpa using h3
        have HV := hide (valid_any s w (unhide HT) (by have := unhide HS; omega))
        cases h4 : Lib.validD s.data.toList with
        | false =>
          rw [h4] at HV
          have HF : Hid (repB n at_ k s = false) := hide (by unfold repB; rw [h1, h2, h3, h4]; rfl)
          clear h1 h2 h3 h4
          go_enter Tryd.func62, Tryd.ntmps62
          go_wp2_with fail
          refine Calls.mono (unhide HW1) ?_
          rintro r w1 ⟨rfl, rfl⟩
          go_wp2_with fail
          refine Calls.mono (unhide HW2) ?_
          rintro r w1 ⟨rfl, rfl⟩
          go_wp2_with fail
          refine Calls.mono (unhide HW3) ?_
          rintro r w1 ⟨rfl, rfl⟩
          go_wp2_with fail
          refine Calls.mono (unhide HV) ?_
          rintro r w1 ⟨rfl, hb1⟩
          have HB1 := hide hb1
          clear hb1
          go_wp2_with fail
          go_ret2
          exact ⟨.inl ⟨unhide HF, rfl⟩, unhide HB1⟩
        | true =>
          rw [h4] at HV
          have HREP : Hid (repB n at_ k s = decide ((Lib.runeCount s : Int) ≤ 1099511627776 - n)) := hide (by unfold repB; rw [h1, h2, h3, h4]; rfl)
          obtain ⟨cs, hcs⟩ := tx_of_valid h4
          have hcnt : Lib.runeCount s ≤ s.size := by rw [hcs.count, hcs.size]; exact hcs.cps.len
          have HC : Hid (∀ W, Below w.heap.size w W → Calls Tryd.prog 39 #[.string s] W fun e w' => e = .returned (.int .i64 (Lib.runeCount s : Int)) ∧ Below W.heap.size W w') := hide (fun W hW => counts_any s W (by have := unhide HS; omega))
          have HRL : Hid (repL n at_ k s = normL [⟨1, at_, ByteArray.empty⟩, ⟨2, (Lib.runeCount s : Int), s⟩, ⟨3, k, ByteArray.empty⟩, ⟨1, n - at_ - k, ByteArray.empty⟩]) := hide rfl
          obtain ⟨R, hR⟩ : ∃ z, Lib.runeCount s = z := ⟨_, rfl⟩
          rw [hR] at hcnt HC HREP HRL
          have hR2 : (R : Int) ≤ 140737488355328 := by have := unhide HS; omega
          clear h1 h2 h3 h4 hcs hcnt hR
          by_cases h5 : (R : Int) ≤ 1099511627776 - n
          rotate_left
          · have HF : Hid (repB n at_ k s = false) := hide (by rw [unhide HREP]; simpa using h5)
            go_enter Tryd.func62, Tryd.ntmps62
            go_wp2_with fail
            refine Calls.mono (unhide HW1) ?_
            rintro r w1 ⟨rfl, rfl⟩
            go_wp2_with fail
            refine Calls.mono (unhide HW2) ?_
            rintro r w1 ⟨rfl, rfl⟩
            go_wp2_with fail
            refine Calls.mono (unhide HW3) ?_
            rintro r w1 ⟨rfl, rfl⟩
            go_wp2_with fail
            refine Calls.mono (unhide HV) ?_
            rintro r w1 ⟨rfl, hb1⟩
            have HB1 := hide hb1
            clear hb1
            go_wp2_with fail
            refine Calls.mono (unhide HC _ (unhide HB1)) ?_
            rintro r w2 ⟨rfl, hb2⟩
            have HB2 := hide ((unhide HB1).trans (hb2.mono (unhide HB1).size))
            clear hb2 HB1
            go_wp2_with fail
            go_ret2
            exact ⟨.inl ⟨unhide HF, rfl⟩, unhide HB2⟩
          · have HF : Hid (repB n at_ k s = true) := hide (by rw [unhide HREP]; simpa using h5)
            have e2 : wrap64 (n - at_ - k) = n - at_ - k := by unfold wrap64; omega
            go_enter Tryd.func62, Tryd.ntmps62
            go_wp2_with fail
            refine Calls.mono (unhide HW1) ?_
            rintro r w1 ⟨rfl, rfl⟩
            go_wp2_with fail
            refine Calls.mono (unhide HW2) ?_
            rintro r w1 ⟨rfl, rfl⟩
            go_wp2_with fail
            refine Calls.mono (unhide HW3) ?_
            rintro r w1 ⟨rfl, rfl⟩
            go_wp2_with fail
            refine Calls.mono (unhide HV) ?_
            rintro r w1 ⟨rfl, hb1⟩
            have HB1 := hide hb1
            clear hb1
            go_wp2_with fail
            refine Calls.mono (unhide HC _ (unhide HB1)) ?_
            rintro r w2 ⟨rfl, hb2⟩
            have HB2 := hide ((unhide HB1).trans (hb2.mono (unhide HB1).size))
            clear hb2 HB1
            go_wp2_with fail
            refine Calls.mono (keep_any at_ _) ?_
            rintro r w3 ⟨rfl, hb3⟩
            have HB3 := hide ((unhide HB2).trans (hb3.mono (unhide HB2).size))
            clear hb3 HB2
            go_wp2_with fail
            refine Calls.mono (put_any _ s _) ?_
            rintro r w4 ⟨rfl, hb4⟩
            have HB4 := hide ((unhide HB3).trans (hb4.mono (unhide HB3).size))
            clear hb4 HB3
            go_wp2_with fail
            refine Calls.mono (drop_any k _) ?_
            rintro r w5 ⟨rfl, hb5⟩
            have HB5 := hide ((unhide HB4).trans (hb5.mono (unhide HB4).size))
            clear hb5 HB4
            go_wp2_with fail
            refine Calls.mono (keep_any _ _) ?_
            rintro r w6 ⟨rfl, hb6⟩
            have HB6 := hide ((unhide HB5).trans (hb6.mono (unhide HB5).size))
            clear hb6 HB5
            unfold pv
            go_wp2_with fail
            have HP4 : Hid (PtsAt (w6.alloc (.cells #[.int .i64 1, .int .i64 at_, .string ByteArray.empty, .int .i64 2, .int .i64 (R : Int), .string s, .int .i64 3, .int .i64 k, .string ByteArray.empty, .int .i64 1, .int .i64 (n - at_ - k), .string ByteArray.empty] 91)) (some ⟨w6.heap.size, 0, none⟩) [⟨1, at_, ByteArray.empty⟩, ⟨2, (R : Int), s⟩, ⟨3, k, ByteArray.empty⟩, ⟨1, n - at_ - k, ByteArray.empty⟩]) := hide (row_pts (RowAt.new w6 91 _))
            have HBA := hide ((unhide HB6).alloc (unhide HB6).size (.cells #[.int .i64 1, .int .i64 at_, .string ByteArray.empty, .int .i64 2, .int .i64 (R : Int), .string s, .int .i64 3, .int .i64 k, .string ByteArray.empty, .int .i64 1, .int .i64 (n - at_ - k), .string ByteArray.empty] 91))
            refine Calls.mono (norm_any _ [⟨1, at_, ByteArray.empty⟩, ⟨2, (R : Int), s⟩, ⟨3, k, ByteArray.empty⟩, ⟨1, n - at_ - k, ByteArray.empty⟩] 4 _ ((unhide HT).call (unhide HBA)) (unhide HP4) (by simp) (by have := unhide HS; simp [sumT]; omega)) ?_
            rintro r w7 ⟨v, rfl, hv, hb7⟩
            have HV7 := hide (own_base hv (unhide HBA).size)
            have HB7 := hide ((unhide HBA).trans (hb7.mono (unhide HBA).size))
            clear hv hb7 HBA HP4 HB6
            go_wp2_with fail
            go_ret2
            exact ⟨.inr ⟨unhide HF, v, rfl, by rw [unhide HRL]; exact unhide HV7⟩, unhide HB7⟩
/-- the parts, or none -/
def repO (n at_ k : Int) (s : ByteArray) : List Pt := if repB n at_ k s = true then repL n at_ k s else []
end Go.Proofs.YtdnbhomjfgpcfaaDoor
