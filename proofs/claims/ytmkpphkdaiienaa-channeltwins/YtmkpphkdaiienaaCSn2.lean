/- Send. -/
import Derived.Test.YtmkpphkdaiienaaCSnd
namespace Go.Proofs.Ytmkpphkdaiienaa
set_option linter.unusedVariables false
set_option linter.unusedSimpArgs false
open Go.ChangeShapes Go.WideShapes Go.ChangeAt Go.RowKit Go.Joins Go.Deep

def sendE (s : CS) (n : Nat) : Int := if n = 0 then 1 else if 16320 < n then 4 else if 32 ≤ s.q.length then 7 else if 1099511627776 < s.next then 5 else 0
def sendS (s : CS) (v : Value) (l : List Nat) : CS := if sendE s l.length = 0 then ⟨s.next + 1, s.q ++ [⟨s.next, v, l, false, 0⟩], s.want, s.early, s.owes, s.conn⟩ else s
def SendR (B g m : Nat) (vq : Value) (s : CS) (l : List Nat) (w : World) (r : Ending) (w' : World) : Prop := r = .returned (.int .i64 (sendE s l.length)) ∧ ∃ v vq', Ch w' B g m vq' (sendS s v l) ∧ Turn w w' g m vq vq'
theorem SendR.no {B g m : Nat} {vq : Value} {s : CS} {l : List Nat} {w : World} {e : Int} (h : Ch w B g m vq s) (he : sendE s l.length = e) (h0 : e ≠ 0) : SendR B g m vq s l w (.returned (.int .i64 e)) w :=
  ⟨by rw [he], .slice none 0 0, vq, by unfold sendS; rw [if_neg (by rw [he]; exact h0)]; exact h, Turn.refl _ _ _ _⟩
set_option maxRecDepth 100000 in
set_option maxHeartbeats 4000000 in
theorem send_any (B g m : Nat) (vq vb : Value) (s : CS) (l : List Nat) (w : World) (h : Ch w B g m vq s) (hk : s.Ok) (hv : Byt w vb l) (hB : B ≤ w.heap.size) (hl : l.length ≤ 1000000000) :
    Calls Try.prog 15 #[.pointer (some ⟨g, 0, none⟩), vb] w fun r w' => SendR B g m vq s l w r w' := by
  obtain ⟨ab, cb, hvb⟩ := byt_shape hv
  obtain ⟨aq, cq, hvq⟩ := own_one h.own
  have c1 : w.cell? ⟨g, 1, none⟩ = some (.slice aq s.q.length cq) := by rw [← hvq]; exact h.row.cell 1
  have c0 : w.cell? ⟨g, 0, none⟩ = some (.int .i64 s.next) := h.row.cell 0
  have HV := hide hv
  rw [hvb] at HV
  subst hvb
  have K := hide (made_ok g s.conn w (h.row.cell 5) hk.c)
  have HH := hide h
  have HK := hide hk
  have HNX := hide (And.intro hk.n0 hk.n1)
  clear h hk hv
  obtain ⟨n, hn⟩ : ∃ n, l.length = n := ⟨_, rfl⟩
  have HN := hide hn
  rw [hn] at HV hl ⊢
  obtain ⟨nq, hnq⟩ : ∃ z, s.q.length = z := ⟨_, rfl⟩
  have HNQ := hide hnq
  rw [hnq] at c1
  obtain ⟨nx, hnx⟩ : ∃ z, s.next = z := ⟨_, rfl⟩
  have HNE := hide hnx
  rw [hnx] at c0
  clear hn hnq hnx hvq
  by_cases h0 : n = 0
  · subst h0
    have HE : Hid (sendE s l.length = 1) := hide (by unfold sendE; rw [unhide HN, if_pos rfl])
    go_enter Try.func15, Try.ntmps15
    go_wp2_with fail
    refine Calls.mono (unhide K) ?_
    rintro r w' ⟨rfl, rfl⟩
    go_wp2_with fail
    go_ret
    exact SendR.no (unhide HH) (unhide HE) (by decide)
  have i0 : ¬ (n : Int) = 0 := by omega
  have i0b : ((n : Int) == 0) = false := by simp [h0]
  by_cases h1 : 16320 < n
  · have i1 : (16320 : Int) < (n : Int) := by omega
    have HE : Hid (sendE s l.length = 4) := hide (by unfold sendE; rw [unhide HN, if_neg h0, if_pos h1])
    clear h0
    go_enter Try.func15, Try.ntmps15
    go_wp2_with fail
    refine Calls.mono (unhide K) ?_
    rintro r w' ⟨rfl, rfl⟩
    go_wp2_with fail
    go_ret
    exact SendR.no (unhide HH) (unhide HE) (by decide)
  have i1 : ¬ (16320 : Int) < (n : Int) := by omega
  by_cases h2 : 32 ≤ nq
  · have i2 : (32 : Int) ≤ (nq : Int) := by omega
    have HE : Hid (sendE s l.length = 7) := hide (by unfold sendE; rw [unhide HN, if_neg h0, if_neg h1, if_pos (by rw [unhide HNQ]; exact h2)])
    clear h0
    go_enter Try.func15, Try.ntmps15
    go_wp2_with fail
    refine Calls.mono (unhide K) ?_
    rintro r w' ⟨rfl, rfl⟩
    go_wp2_with fail
    go_ret
    exact SendR.no (unhide HH) (unhide HE) (by decide)
  have i2 : ¬ (32 : Int) ≤ (nq : Int) := by omega
  by_cases h3 : 1099511627776 < nx
  · have HE : Hid (sendE s l.length = 5) := hide (by unfold sendE; rw [unhide HN, if_neg h0, if_neg h1, if_neg (by rw [unhide HNQ]; exact h2), if_pos (by rw [unhide HNE]; exact h3)])
    clear h0
    go_enter Try.func15, Try.ntmps15
    go_wp2_with fail
    refine Calls.mono (unhide K) ?_
    rintro r w' ⟨rfl, rfl⟩
    go_wp2_with fail
    go_ret
    exact SendR.no (unhide HH) (unhide HE) (by decide)
  have HE : Hid (sendE s l.length = 0) := hide (by unfold sendE; rw [unhide HN, if_neg h0, if_neg h1, if_neg (by rw [unhide HNQ]; exact h2), if_neg (by rw [unhide HNE]; exact h3)])
  have HQ : Hid (s.q.length < 32) := hide (by rw [unhide HNQ]; omega)
  have HHd := hide ((unhide HH).call (Below.drew (Below.refl _ w)))
  have HVd := hide ((unhide HV).call (Below.drew (Below.refl _ w)))
  have HT0 : Hid (Turn w w.drew g m vq vq) := hide (Turn.below (Below.drew (Below.refl _ w)))
  have HBd : Hid (B ≤ w.drew.heap.size) := hide hB
  clear h0
  go_enter Try.func15, Try.ntmps15
  go_wp2_with fail
  refine Calls.mono (unhide K) ?_
  rintro r w' ⟨rfl, rfl⟩
  clear K
  go_wp2_with fail
  refine wp_region_T (S := fun _ => True) (fun i => decide (i < 6)) (by kernel_rfl) trivial (fun hHeld => ?_)
  obtain ⟨wd, hwd⟩ : ∃ z, w.drew = z := ⟨_, rfl⟩
  rw [hwd] at HHd HVd HT0 HBd ⊢
  clear hwd c0 c1 HH HV
  refine wpAnyT_take (i := 0) (oi := { dst := some 32, op := Op.move (Operand.tmp 0), type := 23, pos := "channel.go:66", after := #[], guard := none }) (v := .pointer (some ⟨g, 0, none⟩)) rfl (by kernel_rfl) (by kernel_rfl) (by kernel_rfl) (by kernel_rfl) (fun _ _ _ h => h) (Or.inl ⟨by rfl, ?_⟩) hHeld ?_
  · intro w hSw
    first
      | rfl
      | (go_simp; done)
  try simp only [Act.put, List.setIfInBounds_toArray, List.set_cons_zero, List.set_cons_succ]
  refine wpAnyT_take (i := 1) (oi := { dst := some 33, op := Op.nilCheck (Operand.tmp 32), type := 0, pos := "channel.go:66", after := #[{ on := 0, ground := Ground.data }], guard := none }) (v := .pointer (some ⟨g, 0, none⟩)) rfl (by kernel_rfl) (by kernel_rfl) (by kernel_rfl) (by kernel_rfl) (fun _ _ _ h => h) (Or.inl ⟨by rfl, ?_⟩) hHeld ?_
  · intro w hSw
    first
      | rfl
      | (go_simp; done)
  try simp only [Act.put, List.setIfInBounds_toArray, List.set_cons_zero, List.set_cons_succ]
  refine wpAnyT_take (i := 2) (oi := { dst := some 34, op := Op.fieldAddr 80 (Operand.tmp 33) 0, type := 0, pos := "channel.go:66", after := #[{ on := 1, ground := Ground.data }], guard := none }) (v := .pointer (some ⟨g, 0, none⟩)) rfl (by kernel_rfl) (by kernel_rfl) (by kernel_rfl) (by kernel_rfl) (fun _ _ _ h => h) (Or.inl ⟨by rfl, ?_⟩) hHeld ?_
  · intro w hSw
    first
      | rfl
      | (go_simp; done)
  try simp only [Act.put, List.setIfInBounds_toArray, List.set_cons_zero, List.set_cons_succ]
  refine wpAnyT_take (i := 3) (oi := { dst := some 35, op := Op.move (Operand.tmp 1), type := 32, pos := "channel.go:66", after := #[], guard := none }) (v := .slice ab n cb) rfl (by kernel_rfl) (by kernel_rfl) (by kernel_rfl) (by kernel_rfl) (fun _ _ _ h => h) (Or.inl ⟨by rfl, ?_⟩) hHeld ?_
  · intro w hSw
    first
      | rfl
      | (go_simp; done)
  try simp only [Act.put, List.setIfInBounds_toArray, List.set_cons_zero, List.set_cons_succ]
  refine wpAnyT_one (i := 4) (o := { dst := some 36, op := Op.call { callee := Callee.value (Operand.func 14), args := #[Operand.tmp 35], argTypes := #[32] }, type := 32, pos := "channel.go:66", after := #[{ on := 3, ground := Ground.data }], guard := none }) (by kernel_rfl) rfl (fun K hK => ?_)
  go_simp
  refine Calls.mono (clone_any _ l wd (unhide HVd) (by rw [unhide HN]; omega)) ?_
  rintro r w1 ⟨vc, rfl, o1, b1⟩
  have HO1 : Hid (Own w1 vc l) := hide (show w1.ownsRow 0 5 1 vc l.length (bv l) from ⟨o1.1, o1.2.imp id (fun ⟨g, c, cur, e1, _, e2⟩ => ⟨g, c, cur, e1, Nat.zero_le _, e2⟩)⟩)
  have HH1 := hide ((unhide HHd).call b1)
  have HT1 := hide ((unhide HT0).trans (Turn.below b1))
  have HB1 := hide (Nat.le_trans (unhide HBd) b1.size)
  clear o1 b1 HHd HVd HT0 HBd
  go_wp2_with fail
  refine hK.out _ _ (fun _ => trivial) ?_
  clear hK K
  try simp only [Act.put, List.setIfInBounds_toArray, List.set_cons_zero, List.set_cons_succ]
  refine wpAnyT_one (i := 5) (o := { dst := some 37, op := Op.call { callee := Callee.value (Operand.func 40), args := #[Operand.tmp 34, Operand.tmp 36], argTypes := #[75, 32] }, type := 0, pos := "channel.go:66", after := #[{ on := 2, ground := Ground.data }, { on := 4, ground := Ground.data }, { on := 4, ground := Ground.chain }], guard := none }) (by kernel_rfl) rfl (fun K hK => ?_)
  go_simp
  refine Calls.mono (add_ok B g m vq vc s l w1 (unhide HH1) (unhide HK) (unhide HO1) (unhide HB1) (unhide HQ)) ?_
  rintro r w2 ⟨rfl, vq', c2, t2⟩
  have HC2 := hide c2
  have HT2 := hide ((unhide HT1).trans t2)
  clear c2 t2 HT1 HH1 HB1
  go_wp2_with fail
  refine hK.out _ _ (fun _ => trivial) ?_
  clear hK K
  try simp only [Act.put, List.setIfInBounds_toArray, List.set_cons_zero, List.set_cons_succ]
  refine wpAnyT_done (by kernel_rfl) ?_ _
  go_wp2_with fail
  go_ret
  exact ⟨by rw [unhide HE]; rfl, vc, vq', by unfold sendS; rw [if_pos (unhide HE)]; exact unhide HC2, unhide HT2⟩
end Go.Proofs.Ytmkpphkdaiienaa
