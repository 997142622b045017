/- Bodies that came are no more: acknowledge. -/
import Derived.Test.YtmkpphkdaiienaaCDel
namespace Go.Proofs.Ytmkpphkdaiienaa
set_option linter.unusedVariables false
set_option linter.unusedSimpArgs false
open Go.ChangeShapes Go.WideShapes Go.ChangeAt Go.RowKit Go.Joins Go.Deep

def ackN (a : Int) : List Par → Nat
  | [] => 0
  | p :: r => if p.sent = true ∧ p.seq ≤ a then ackN a r + 1 else 0
theorem ackN_le (a : Int) : ∀ q : List Par, ackN a q ≤ q.length
  | [] => Nat.le_refl _
  | p :: r => by unfold ackN; have := ackN_le a r; split <;> simp <;> omega
theorem ackN_at (a : Int) : ∀ (q : List Par) (k : Nat) (p : Par), q[k]? = some p → ackN a (q.drop k) = if p.sent = true ∧ p.seq ≤ a then ackN a (q.drop (k + 1)) + 1 else 0
  | [], k, p, h => by simp at h
  | x :: r, 0, p, h => by
    obtain rfl : x = p := by simpa using h
    simp [ackN]
  | x :: r, k + 1, p, h => by simpa using ackN_at a r k p (by simpa using h)
theorem qcell {w : World} {B n : Nat} {a : Option Addr} {c : Nat} {q : List Par} (h : w.ownsRow B 96 4 (.slice a n c) q.length (qcs q)) (hq : 0 < q.length) :
    ∃ gq, a = some ⟨gq, 0, none⟩ ∧ n = q.length ∧ n ≤ c ∧ c ≤ maxLen ∧ B ≤ gq ∧ ∀ (i : Nat) (p : Par), q[i]? = some p → ∀ f, f < 4 → w.cell? ⟨gq, i * 4 + f, none⟩ = p.cs[f]? := by
  obtain ⟨gq, cap, cs, e, hB, hr, h1, h2, h3, h4⟩ := own_row h hq
  injection e with e1 e2 e3
  subst e1 e2 e3
  refine ⟨gq, rfl, rfl, h1, h2, hB, fun i p hp f hf => ?_⟩
  have hi : i < q.length := (List.getElem?_eq_some_iff.1 hp).1
  rw [hr.cell, ← qcs_get q i f p hp hf, ← h4, List.getElem?_take_of_lt (by omega)]
theorem own_put {w : World} {B gq n c : Nat} {q : List Par} (h : w.ownsRow B 96 4 (.slice (some ⟨gq, 0, none⟩) n c) q.length (qcs q)) (i f : Nat) (p p' : Par) (u : Value) (hp : q[i]? = some p) (hf : f < 4) (hs : p.cs.set f u = p'.cs) :
    (w.setCell ⟨gq, i * 4 + f, none⟩ u).ownsRow B 96 4 (.slice (some ⟨gq, 0, none⟩) n c) (q.set i p').length (qcs (q.set i p')) ∧ w.frozen? ⟨gq, i * 4 + f, none⟩ = false := by
  have hi : i < q.length := (List.getElem?_eq_some_iff.1 hp).1
  obtain ⟨g', cap, cs, e, hB, hr, h1, h2, h3, h4⟩ := own_row h (by omega)
  injection e with e1 e2 e3
  injection e1 with e1
  injection e1 with e1 _ _
  subst e1 e2 e3
  refine ⟨?_, hr.frozen _⟩
  rw [List.length_set]
  refine row_own hB (hr.set (i * 4 + f) u) h1 h2 (by simpa using h3) ?_
  rw [← qcs_set q i f p p' u hp hf hs, ← h4, List.take_set]
def CS.withQ (s : CS) (q : List Par) : CS := ⟨s.next, q, s.want, s.early, s.owes, s.conn⟩
theorem Ch.newq {w w1 : World} {B g m : Nat} {vq vq' : Value} {s : CS} {q' : List Par} (h : Ch w B g m vq s) (ho : Only (fun i => vq.ownBlock = some i) w w1) (own : w1.ownsRow B 96 4 vq' q'.length (qcs q')) (hb : ∀ p ∈ q', p ∈ s.q)
    (hk : ∀ k, vq'.ownBlock = some k → vq.ownBlock = some k ∨ w.heap.size ≤ k) :
    Ch (w1.setCell ⟨g, 1, none⟩ vq') B g m vq' (s.withQ q') ∧ Turn w (w1.setCell ⟨g, 1, none⟩ vq') g m vq vq' := by
  have hr1 : RowAt w1 g 80 [.int .i64 s.next, vq, .int .i64 s.want, .map (some m), .bool s.owes, .int .i64 s.conn] := h.row.only ho (fun e => tag_ne h.own h.row (by decide) e)
  have hm1 : MapIs w1 m s.early := h.map.only ho (own_map h.own h.map)
  have o2 : Only (· = g) w1 (w1.setCell ⟨g, 1, none⟩ vq') := Only.set (p := (· = g)) (Only.refl _ _) g 1 _ rfl
  have ha : Only (fp g m vq) w (w1.setCell ⟨g, 1, none⟩ vq') := (ho.mono (fun i hi => .inr (.inr hi))).trans (o2.mono (fun i hi => .inl hi))
  refine ⟨⟨hr1.set 1 vq', ?_, ?_, ?_, ?_, h.gB, h.mB⟩, ha, hk⟩
  · exact own_only own o2 (fun i hi e => tag_ne own hr1 (by decide) (e ▸ hi))
  · exact hm1.only o2 (fun e => row_map hr1 hm1 e.symm)
  · exact fun p hp => h.keep ha (h.bod p (hb p hp))
  · exact fun x hx => h.keep ha (h.erl x hx)
theorem Ch.rowAt1 {w w1 : World} {B g m : Nat} {vq : Value} {s : CS} (h : Ch w B g m vq s) (ho : Only (fun i => vq.ownBlock = some i) w w1) : w1.cell? ⟨g, 1, none⟩ = some vq ∧ w1.frozen? ⟨g, 1, none⟩ = false := by
  have hr1 : RowAt w1 g 80 [.int .i64 s.next, vq, .int .i64 s.want, .map (some m), .bool s.owes, .int .i64 s.conn] := h.row.only ho (fun e => tag_ne h.own h.row (by decide) e)
  exact ⟨hr1.cell 1, hr1.frozen 1⟩
def AckR (B g m : Nat) (vq : Value) (s : CS) (a : Int) (w : World) (r : Ending) (w' : World) : Prop := r = .returned (.tuple #[]) ∧ ∃ vq', Ch w' B g m vq' (s.withQ (s.q.drop (ackN a s.q))) ∧ Turn w w' g m vq vq'
theorem ack_end {B g m k : Nat} {vq : Value} {s : CS} {a : Int} {w w1 : World} {v' : Value} (h : Ch w B g m vq s) (hk : ackN a s.q = k) (own : w1.ownsRow B 96 4 v' (s.q.length - k) ((qcs s.q).drop (k * 4))) (ho : Only (fun i => vq.ownBlock = some i) w w1) (hb : ∀ i, v'.ownBlock = some i → vq.ownBlock = some i) :
    AckR B g m vq s a w (.returned (.tuple #[])) (w1.setCell ⟨g, 1, none⟩ v') := by
  rw [qcs_drop, ← List.length_drop] at own
  have := h.newq ho own (fun p hp => List.mem_of_mem_drop hp) (fun k hk => .inl (hb k hk))
  refine ⟨rfl, v', ?_⟩
  rw [hk]
  exact this
set_option maxRecDepth 100000 in
set_option maxHeartbeats 4000000 in
theorem ack_ok (B g m : Nat) (vq : Value) (s : CS) (a : Int) (w : World) (h : Ch w B g m vq s) (hl : s.q.length ≤ 32) :
    Calls Try.prog 41 #[.pointer (some ⟨g, 0, none⟩), .int .i64 a] w fun r w' => AckR B g m vq s a w r w' := by
  obtain ⟨aq, cq, hvq⟩ := own_one h.own
  have HH := hide h
  have c1 : w.cell? ⟨g, 1, none⟩ = some vq := h.row.cell 1
  have hown := h.own
  obtain ⟨n, hn⟩ : ∃ n, s.q.length = n := ⟨_, rfl⟩
  have HN := hide hn
  have HONE : Hid (∀ u ∈ qcs s.q, u.oneCell' = true) := hide (qcs_one s.q (fun p hp => (h.bod p hp).one))
  have HOWN : Hid (w.ownsRow B 96 4 (.slice aq n cq) n (qcs s.q)) := hide (by rw [← hn, ← hvq]; exact hown)
  rw [hvq, hn] at c1
  have hqc : Hid (0 < n → ∃ gq, aq = some ⟨gq, 0, none⟩ ∧ n ≤ cq ∧ cq ≤ maxLen ∧ ∀ (i : Nat) (p : Par), s.q[i]? = some p → ∀ f, f < 4 → w.cell? ⟨gq, i * 4 + f, none⟩ = p.cs[f]?) := hide (fun h0 => by
    have h1 := hown
    rw [hvq] at h1
    obtain ⟨gq, e1, _, e3, e4, _, e5⟩ := qcell h1 (by omega)
    exact ⟨gq, e1, by omega, e4, e5⟩)
  have HVQ := hide hvq
  rw [hn] at hl HVQ
  clear h hown hn hvq
  go_enter Try.func41, Try.ntmps41
  go_wp2_with fail
  go_loop [4] (fun i => ∃ k : Nat, k ≤ n ∧ i = .int .i64 (k : Int) ∧ Hid (ackN a s.q = k + ackN a (s.q.drop k))) (fun i => n - (intOf i).toNat)
  case atStart => exact ⟨0, by omega, rfl, hide (by simp)⟩
  case round =>
    obtain ⟨k, hk, rfl, HI⟩ := hrel
    by_cases g1 : k < n
    · have i1 : (k : Int) < (n : Int) := by omega
      have i0 : (0 : Int) ≤ (k : Int) := by omega
      obtain ⟨p, hp⟩ : ∃ p, s.q[k]? = some p := ⟨_, List.getElem?_eq_getElem (by rw [unhide HN]; exact g1)⟩
      obtain ⟨gq, rfl, hc, hcm, hx⟩ := unhide hqc (by omega)
      have q2 : w.cell? ⟨gq, k * 4 + 2, none⟩ = some (.bool p.sent) := hx k p hp 2 (by omega)
      have q0 : w.cell? ⟨gq, k * 4, none⟩ = some (.int .i64 p.seq) := hx k p hp 0 (by omega)
      have HAT := hide (ackN_at a s.q k p hp)
      clear hx hcm
      obtain ⟨sq, hsq⟩ : ∃ z, p.seq = z := ⟨_, rfl⟩
      have HSQ := hide hsq
      rw [hsq] at q0
      cases hs : p.sent with
      | false =>
        rw [hs] at q2
        have HA : Hid (ackN a s.q = k) := hide (by rw [unhide HI, unhide HAT, if_neg (by rw [hs]; rintro ⟨h, _⟩; cases h)]; rfl)
        clear hp hs hsq
        go_wp2_with fail
        refine Calls.mono (del_any w B n k _ (qcs s.q) (unhide HOWN) (by omega) (by omega) (unhide HONE)) ?_
        rintro r w1 ⟨v', rfl, o1, o2, o3⟩
        obtain ⟨a9, c9, rfl⟩ := own_one o1
        have HO2 : Hid (Only (fun i => vq.ownBlock = some i) w w1) := hide (by rw [unhide HVQ]; exact o2)
        have HE := hide (ack_end (unhide HH) (unhide HA) (by rw [unhide HN]; exact o1) (unhide HO2) (by rw [unhide HVQ]; exact o3))
        obtain ⟨f1, f2⟩ := (unhide HH).rowAt1 (unhide HO2)
        rw [unhide HVQ] at f1
        clear o1 o2 o3
        go_wp2_with fail
        go_end0
        exact unhide HE
      | true =>
        rw [hs] at q2
        by_cases g2 : sq ≤ a
        · have HNX : Hid (ackN a s.q = k + 1 + ackN a (s.q.drop (k + 1))) := hide (by rw [unhide HI, unhide HAT, if_pos ⟨hs, by rw [unhide HSQ]; exact g2⟩]; omega)
          clear hp hs hsq
          go_wp2_with fail
          go_round
          case rel => exact ⟨k + 1, by omega, by go_num, HNX⟩
          case measure => simp [intOf]; omega
        · have HA : Hid (ackN a s.q = k) := hide (by rw [unhide HI, unhide HAT, if_neg (by rw [unhide HSQ]; rintro ⟨_, h⟩; exact g2 h)]; rfl)
          have g3 : a < sq := by omega
          clear hp hs hsq
          go_wp2_with fail
          refine Calls.mono (del_any w B n k _ (qcs s.q) (unhide HOWN) (by omega) (by omega) (unhide HONE)) ?_
          rintro r w1 ⟨v', rfl, o1, o2, o3⟩
          obtain ⟨a9, c9, rfl⟩ := own_one o1
          have HO2 : Hid (Only (fun i => vq.ownBlock = some i) w w1) := hide (by rw [unhide HVQ]; exact o2)
          have HE := hide (ack_end (unhide HH) (unhide HA) (by rw [unhide HN]; exact o1) (unhide HO2) (by rw [unhide HVQ]; exact o3))
          obtain ⟨f1, f2⟩ := (unhide HH).rowAt1 (unhide HO2)
          rw [unhide HVQ] at f1
          clear o1 o2 o3
          go_wp2_with fail
          go_end0
          exact unhide HE
    · have HA : Hid (ackN a s.q = k) := hide (by rw [unhide HI, List.drop_eq_nil_of_le (by rw [unhide HN]; omega)]; rfl)
      have i1 : ¬ (k : Int) < (n : Int) := by omega
      go_wp2_with fail
      refine Calls.mono (del_any w B n k _ (qcs s.q) (unhide HOWN) (by omega) (by omega) (unhide HONE)) ?_
      rintro r w1 ⟨v', rfl, o1, o2, o3⟩
      obtain ⟨a9, c9, rfl⟩ := own_one o1
      have HO2 : Hid (Only (fun i => vq.ownBlock = some i) w w1) := hide (by rw [unhide HVQ]; exact o2)
      have HE := hide (ack_end (unhide HH) (unhide HA) (by rw [unhide HN]; exact o1) (unhide HO2) (by rw [unhide HVQ]; exact o3))
      obtain ⟨f1, f2⟩ := (unhide HH).rowAt1 (unhide HO2)
      rw [unhide HVQ] at f1
      clear o1 o2 o3
      go_wp2_with fail
      go_end0
      exact unhide HE
end Go.Proofs.Ytmkpphkdaiienaa
