/- Time passes: window, age, Tick. -/
import Derived.Test.YtmkpphkdaiienaaCAck
namespace Go.Proofs.Ytmkpphkdaiienaa
set_option linter.unusedVariables false
set_option linter.unusedSimpArgs false
open Go.ChangeShapes Go.WideShapes Go.ChangeAt Go.RowKit Go.Joins Go.Deep

set_option maxRecDepth 100000 in
set_option maxHeartbeats 4000000 in
theorem window_ok (g n c : Nat) (a : Option Addr) (w : World) (h : w.cell? ⟨g, 1, none⟩ = some (.slice a n c)) (hc : n ≤ c) (hn : n ≤ 32) :
    Calls Try.prog 57 #[.pointer (some ⟨g, 0, none⟩)] w fun r w' => r = .returned (.slice a (min n 4) (min n 4)) ∧ w = w' := by
  have hmin : min (n : Int) 4 = ((min n 4 : Nat) : Int) := by omega
  have hl : min n 4 ≤ n := by omega
  obtain ⟨m, hm⟩ : ∃ m, min n 4 = m := ⟨_, rfl⟩
  rw [hm] at hl hmin ⊢
  have i0 : (0 : Int) ≤ (m : Int) := by omega
  have i1 : (m : Int) ≤ (n : Int) := by omega
  have i2 : (m : Int) ≤ (c : Int) := by omega
  have HM := hide hm
  clear hm
  go_enter Try.func57, Try.ntmps57
  go_wp2_with fail
  all_goals
    go_ret
    first
      | (have e : m = 4 := by have := unhide HM; omega
         rw [e]; exact ⟨rfl, rfl⟩)
      | (have e : m = n := by have := unhide HM; omega
         rw [e]; exact ⟨rfl, rfl⟩)
def agePar (p : Par) : Par := if p.sent = true then ⟨p.seq, p.v, p.body, p.sent, p.ticks + 1⟩ else p
theorem set_self {α : Type} : ∀ (l : List α) (i : Nat) (a : α), l[i]? = some a → l.set i a = l
  | [], i, a, h => by simp at h
  | x :: r, 0, a, h => by simp at h; simp [h]
  | x :: r, i + 1, a, h => by simp at h; simp [set_self r i a h]
def mapN (f : Par → Par) (k : Nat) (q : List Par) : List Par := (q.take k).map f ++ q.drop k
theorem mapN_len (f : Par → Par) (k : Nat) (q : List Par) : (mapN f k q).length = q.length := by simp [mapN]; omega
theorem mapN_at (f : Par → Par) {k : Nat} {q : List Par} {p : Par} (h : q[k]? = some p) : (mapN f k q)[k]? = some p := by
  have hk := (List.getElem?_eq_some_iff.1 h).1
  rw [mapN, List.getElem?_append_right (by simp; omega)]
  simp [Nat.min_eq_left (Nat.le_of_lt hk), h]
theorem mapN_next (f : Par → Par) {k : Nat} {q : List Par} {p : Par} (h : q[k]? = some p) : mapN f (k + 1) q = (mapN f k q).set k (f p) := by
  have hk := (List.getElem?_eq_some_iff.1 h).1
  have he := (List.getElem?_eq_some_iff.1 h).2
  unfold mapN
  rw [List.take_succ_eq_append_getElem hk, List.map_append, List.append_assoc, List.set_append_right _ _ (by simp; omega)]
  congr 1
  simp only [List.length_map, List.length_take, Nat.min_eq_left (Nat.le_of_lt hk), Nat.sub_self, List.map_cons, List.map_nil, List.singleton_append]
  rw [List.drop_eq_getElem_cons hk, he]
  rfl
theorem mapN_zero (f : Par → Par) (q : List Par) : mapN f 0 q = q := by simp [mapN]
theorem Ch.put {w : World} {B g m gq n c : Nat} {s : CS} {q : List Par} (h : Ch w B g m (.slice (some ⟨gq, 0, none⟩) n c) (s.withQ q)) (i f : Nat) (p p' : Par) (u : Value) (hp : q[i]? = some p) (hf : f < 4) (hs : p.cs.set f u = p'.cs) (hv : p'.v = p.v ∧ p'.body = p.body) :
    Ch (w.setCell ⟨gq, i * 4 + f, none⟩ u) B g m (.slice (some ⟨gq, 0, none⟩) n c) (s.withQ (q.set i p')) ∧ Turn w (w.setCell ⟨gq, i * 4 + f, none⟩ u) g m (.slice (some ⟨gq, 0, none⟩) n c) (.slice (some ⟨gq, 0, none⟩) n c) ∧ w.frozen? ⟨gq, i * 4 + f, none⟩ = false := by
  obtain ⟨h1, h2⟩ := own_put h.own i f p p' u hp hf hs
  have o : Only (· = gq) w (w.setCell ⟨gq, i * 4 + f, none⟩ u) := Only.set (p := (· = gq)) (Only.refl _ _) gq _ _ rfl
  have hq : (Value.slice (some ⟨gq, 0, none⟩) n c).ownBlock = some gq := rfl
  have ha : Only (fp g m (.slice (some ⟨gq, 0, none⟩) n c)) w (w.setCell ⟨gq, i * 4 + f, none⟩ u) := o.mono (fun k hk => .inr (.inr (by rw [hk]; rfl)))
  have hg : ¬ g = gq := fun e => tag_ne h.own h.row (by decide) (by rw [e]; rfl)
  have hm : ¬ m = gq := fun e => own_map h.own h.map (by rw [e]; rfl)
  refine ⟨⟨h.row.only o hg, h1, h.map.only o hm, fun x hx => ?_, fun x hx => h.keep ha (h.erl x hx), h.gB, h.mB⟩, ⟨ha, fun k hk => .inl hk⟩, h2⟩
  rcases List.mem_or_eq_of_mem_set hx with hx | rfl
  · exact h.keep ha (h.bod x hx)
  · rw [hv.1, hv.2]
    exact h.keep ha (h.bod p (List.mem_of_getElem? hp))
def AgeR (B g m : Nat) (vq : Value) (s : CS) (w : World) (r : Ending) (w' : World) : Prop := r = .returned (.tuple #[]) ∧ Ch w' B g m vq (s.withQ (mapN agePar (min s.q.length 4) s.q)) ∧ Turn w w' g m vq vq
set_option maxRecDepth 100000 in
set_option maxHeartbeats 4000000 in
theorem age_ok (B g m : Nat) (vq : Value) (s : CS) (w : World) (h : Ch w B g m vq s) (hl : s.q.length ≤ 32) (ht : ∀ p ∈ s.q, 0 ≤ p.ticks ∧ p.ticks ≤ 1000000000) :
    Calls Try.prog 47 #[.pointer (some ⟨g, 0, none⟩)] w fun r w' => AgeR B g m vq s w r w' := by
  obtain ⟨aq, cq, hvq⟩ := own_one h.own
  subst hvq
  have hcq : s.q.length ≤ cq := by
    rcases h.own.2 with ⟨e, h0⟩ | ⟨g, cap, cur, e, _, _, h3, _⟩
    · omega
    · injection e with _ _ e; omega
  have HW := hide (window_ok g s.q.length cq aq w (h.row.cell 1) hcq hl)
  have HH := hide h
  have HT := hide ht
  obtain ⟨n, hn⟩ : ∃ n, s.q.length = n := ⟨_, rfl⟩
  have HN := hide hn
  rw [hn] at hl HW HH ⊢
  obtain ⟨M, hM⟩ : ∃ M, min n 4 = M := ⟨_, rfl⟩
  have hMn : M ≤ n := by omega
  have HAG : Hid (AgeR B g m (.slice aq n cq) s = fun w r w' => r = .returned (.tuple #[]) ∧ Ch w' B g m (.slice aq n cq) (s.withQ (mapN agePar M s.q)) ∧ Turn w w' g m (.slice aq n cq) (.slice aq n cq)) := hide (by unfold AgeR; rw [hn, hM])
  rw [hM] at HW
  clear h hcq hn ht hM
  go_enter Try.func47, Try.ntmps47
  go_wp2_with fail
  refine Calls.mono (unhide HW) ?_
  rintro r w' ⟨rfl, rfl⟩
  clear HW
  go_wp2_with fail
  go_loopw [8] (fun i wr => ∃ k : Nat, k ≤ M ∧ i = .int .i64 (k : Int) ∧ Hid (Ch wr B g m (.slice aq n cq) (s.withQ (mapN agePar k s.q)) ∧ Turn w wr g m (.slice aq n cq) (.slice aq n cq))) (fun i _ => M - (intOf i).toNat)
  case atStart => exact ⟨0, by omega, rfl, hide ⟨by rw [mapN_zero]; exact unhide HH, Turn.refl _ _ _ _⟩⟩
  case round =>
    obtain ⟨k, hk, rfl, HI⟩ := hrel
    by_cases g1 : k < M
    · have i1 : (k : Int) < (M : Int) := by omega
      have i0 : (0 : Int) ≤ (k : Int) := by omega
      obtain ⟨p, hp⟩ : ∃ p, s.q[k]? = some p := ⟨_, List.getElem?_eq_getElem (by rw [unhide HN]; omega)⟩
      have hpk := mapN_at agePar hp
      have HNX := hide (mapN_next agePar hp)
      have HTP := hide (unhide HT p (List.mem_of_getElem? hp))
      obtain ⟨gq, rfl, _, hc, hcm, _, hx⟩ := qcell (unhide HI).1.own (by rw [show (s.withQ (mapN agePar k s.q)).q = mapN agePar k s.q from rfl, mapN_len, unhide HN]; omega)
      have q2 : wr.cell? ⟨gq, k * 4 + 2, none⟩ = some (.bool p.sent) := hx k p hpk 2 (by omega)
      have q3 : wr.cell? ⟨gq, k * 4 + 3, none⟩ = some (.int .i64 p.ticks) := hx k p hpk 3 (by omega)
      have t0 := (unhide HTP).1
      have t1 := (unhide HTP).2
      have HPK := hide hpk
      clear hx hcm hp hpk hc
      cases hs : p.sent with
      | false =>
        rw [hs] at q2
        have HAP : Hid (agePar p = p) := hide (by unfold agePar; rw [if_neg (by rw [hs]; decide)])
        have HSET : Hid (mapN agePar (k + 1) s.q = mapN agePar k s.q) := hide (by rw [unhide HNX, unhide HAP]; exact set_self _ _ _ (unhide HPK))
        clear hs
        go_wp2_with fail
        go_roundw
        case rel => exact ⟨k + 1, by omega, by go_num, hide (by rw [unhide HSET]; exact unhide HI)⟩
        case measure => simp [intOf]; omega
      | true =>
        rw [hs] at q2
        have hpu := (unhide HI).1.put k 3 p (agePar p) (.int .i64 (p.ticks + 1)) (unhide HPK) (by decide) (by unfold agePar; rw [if_pos hs]; rfl) (by unfold agePar; rw [if_pos hs]; exact ⟨rfl, rfl⟩)
        have HPU := hide hpu
        have fz := hpu.2.2
        obtain ⟨tk, htk⟩ : ∃ z, p.ticks = z := ⟨_, rfl⟩
        rw [htk] at q3 t0 t1 HPU
        clear hs hpu htk
        go_wp2_with fail
        go_roundw
        case rel => exact ⟨k + 1, by omega, by go_num, hide (by rw [unhide HNX]; exact ⟨(unhide HPU).1, (unhide HI).2.trans (unhide HPU).2.1⟩)⟩
        case measure => simp [intOf]; omega
    · have i1 : ¬ (k : Int) < (M : Int) := by omega
      have hkM : k = M := by omega
      rw [hkM] at HI
      go_wp2_with fail
      go_end0
      rw [unhide HAG]
      exact ⟨rfl, unhide HI⟩
def TickR (B g m : Nat) (vq : Value) (s : CS) (w : World) (r : Ending) (w' : World) : Prop := r = .returned (.int .i64 0) ∧ Ch w' B g m vq (s.withQ (mapN agePar (min s.q.length 4) s.q)) ∧ Turn w w' g m vq vq
set_option maxRecDepth 100000 in
set_option maxHeartbeats 4000000 in
theorem tick_any (B g m : Nat) (vq : Value) (s : CS) (w : World) (h : Ch w B g m vq s) (hl : s.q.length ≤ 32) (hc : s.conn ≠ 0) (ht : ∀ p ∈ s.q, 0 ≤ p.ticks ∧ p.ticks ≤ 1000000000) :
    Calls Try.prog 21 #[.pointer (some ⟨g, 0, none⟩)] w fun r w' => TickR B g m vq s w r w' := by
  have K := hide (made_ok g s.conn w (h.row.cell 5) hc)
  have HA := hide (age_ok B g m vq s w h hl ht)
  clear h hc ht
  go_enter Try.func21, Try.ntmps21
  go_wp2_with fail
  refine Calls.mono (unhide K) ?_
  rintro r w' ⟨rfl, rfl⟩
  go_wp2_with fail
  refine Calls.mono (unhide HA) ?_
  rintro r w1 ⟨rfl, h1⟩
  have H1 := hide h1
  clear h1
  go_wp2_with fail
  go_ret
  exact ⟨rfl, unhide H1⟩
end Go.Proofs.Ytmkpphkdaiienaa
