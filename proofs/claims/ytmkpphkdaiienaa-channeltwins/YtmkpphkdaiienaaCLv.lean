/- What is to be sent now: leave. -/
import Derived.Test.YtmkpphkdaiienaaCAge
namespace Go.Proofs.Ytmkpphkdaiienaa
set_option linter.unusedVariables false
set_option linter.unusedSimpArgs false
open Go.ChangeShapes Go.WideShapes Go.ChangeAt Go.RowKit Go.Joins Go.Deep

/-- all its blocks lie below -/
structure Lt (B0 g m : Nat) (vq : Value) (s : CS) : Prop where
  g : g < B0
  m : m < B0
  q : ∀ k, vq.ownBlock = some k → k < B0
  bod : ∀ p ∈ s.q, ∀ k, p.v.ownBlock = some k → k < B0
  erl : ∀ x ∈ s.early, ∀ k, x.v.ownBlock = some k → k < B0
theorem own_lt {w : World} {B s n : Nat} {e : TypeId} {v : Value} {xs : List Value} (h : w.ownsRow B e s v n xs) : ∀ k, v.ownBlock = some k → k < w.heap.size := fun k hk => by
  rcases h.2 with ⟨rfl, _⟩ | ⟨g, c, cur, rfl, _, e', _⟩
  · cases hk
  · obtain rfl : g = k := by simpa [Value.ownBlock] using hk
    exact (Array.getElem?_eq_some_iff.1 e').1
theorem Ch.lt {w : World} {B g m : Nat} {vq : Value} {s : CS} (h : Ch w B g m vq s) : Lt w.heap.size g m vq s :=
  ⟨h.row.lt, h.map.lt, own_lt h.own, fun p hp => own_lt (h.bod p hp), fun x hx => own_lt (h.erl x hx)⟩
theorem Lt.mono {B0 B1 g m : Nat} {vq : Value} {s : CS} (h : Lt B0 g m vq s) (hb : B0 ≤ B1) : Lt B1 g m vq s :=
  ⟨Nat.lt_of_lt_of_le h.g hb, Nat.lt_of_lt_of_le h.m hb, fun k hk => Nat.lt_of_lt_of_le (h.q k hk) hb, fun p hp k hk => Nat.lt_of_lt_of_le (h.bod p hp k hk) hb, fun p hp k hk => Nat.lt_of_lt_of_le (h.erl p hp k hk) hb⟩
theorem Ch.hi {w w' : World} {B B0 g m : Nat} {vq : Value} {s : CS} (h : Ch w B g m vq s) (l : Lt B0 g m vq s) (ho : Only (fun k => B0 ≤ k) w w') : Ch w' B g m vq s :=
  ⟨h.row.only ho (by have := l.g; omega), own_only h.own ho (fun k hk => by have := l.q k hk; omega), h.map.only ho (by have := l.m; omega),
    fun p hp => own_only (h.bod p hp) ho (fun k hk => by have := l.bod p hp k hk; omega), fun p hp => own_only (h.erl p hp) ho (fun k hk => by have := l.erl p hp k hk; omega), h.gB, h.mB⟩
theorem mapN_mem {f : Par → Par} {k : Nat} {q : List Par} {p : Par} (h : p ∈ mapN f k q) : ∃ p' ∈ q, p = p' ∨ p = f p' := by
  unfold mapN at h
  rcases List.mem_append.1 h with h | h
  · obtain ⟨p', h1, rfl⟩ := List.mem_map.1 h
    exact ⟨p', List.mem_of_mem_take h1, .inr rfl⟩
  · exact ⟨p, List.mem_of_mem_drop h, .inl rfl⟩
theorem Lt.mapN {B0 g m : Nat} {vq : Value} {s : CS} (h : Lt B0 g m vq s) (f : Par → Par) (hf : ∀ p, (f p).v = p.v) (k : Nat) : Lt B0 g m vq (s.withQ (mapN f k s.q)) :=
  ⟨h.g, h.m, h.q, fun p hp j hj => by
    obtain ⟨p', h1, rfl | rfl⟩ := mapN_mem hp
    · exact h.bod _ h1 j hj
    · rw [hf] at hj; exact h.bod _ h1 j hj, h.erl⟩
def duE (p : Par) : Bool := !(p.sent && decide (p.ticks < 3))
def freshP (p : Par) : Par := if duE p = true then ⟨p.seq, p.v, p.body, true, 0⟩ else p
theorem freshP_v (p : Par) : (freshP p).v = p.v := by unfold freshP; split <;> rfl
theorem freshP_b (p : Par) : (freshP p).body = p.body := by unfold freshP; split <;> rfl
def outL (k : Nat) (q : List Par) : List Par := ((q.take k).filter duE).map freshP
theorem outL_next {k : Nat} {q : List Par} {p : Par} (h : q[k]? = some p) : outL (k + 1) q = if duE p = true then outL k q ++ [⟨p.seq, p.v, p.body, true, 0⟩] else outL k q := by
  have hk := (List.getElem?_eq_some_iff.1 h).1
  have he := (List.getElem?_eq_some_iff.1 h).2
  unfold outL
  rw [List.take_succ_eq_append_getElem hk, List.filter_append, List.map_append, he]
  by_cases hd : duE p = true
  · simp [hd, freshP]
  · simp [hd]
theorem outL_len (k : Nat) (q : List Par) : (outL k q).length ≤ k := by
  unfold outL
  rw [List.length_map]
  exact Nat.le_trans (List.length_filter_le _ _) (List.length_take_le _ _)
structure LvI (w wr : World) (B g m : Nat) (vq : Value) (s : CS) (k : Nat) (l : Value) : Prop where
  ch : Ch wr B g m vq (s.withQ (mapN freshP k s.q))
  tu : Turn w wr g m vq vq
  own : wr.ownsRow w.heap.size 96 4 l (outL k s.q).length (qcs (outL k s.q))
def LvR (B g m : Nat) (vq : Value) (s : CS) (w : World) (r : Ending) (w' : World) : Prop := ∃ l, r = .returned l ∧ LvI w w' B g m vq s (min s.q.length 4) l
theorem own_hi {w w' : World} {B0 s n : Nat} {e : TypeId} {v : Value} {xs : List Value} (h : w.ownsRow B0 e s v n xs) {p : Nat → Prop} (ho : Only p w w') (hp : ∀ k, p k → k < B0) : w'.ownsRow B0 e s v n xs :=
  own_only h ho (fun k hk hpk => by
    have := hp k hpk
    rcases h.2 with ⟨rfl, _⟩ | ⟨g, c, cur, rfl, hB, e', _⟩
    · cases hk
    · obtain rfl : g = k := by simpa [Value.ownBlock] using hk
      omega)
/-- what the stores make -/
theorem lv_store {w wr : World} {B g m gq n c k : Nat} {s : CS} {l : Value} {p : Par} (h : LvI w wr B g m (.slice (some ⟨gq, 0, none⟩) n c) s k l) (hl : Lt w.heap.size g m (.slice (some ⟨gq, 0, none⟩) n c) s) (hp : s.q[k]? = some p) (hd : duE p = true) :
    (∀ b, p.sent = b → wr.cell? ⟨gq, k * 4 + 2, none⟩ = some (.bool b)) ∧ wr.frozen? ⟨gq, k * 4 + 2, none⟩ = false ∧ (wr.setCell ⟨gq, k * 4 + 2, none⟩ (.bool true)).cell? ⟨gq, k * 4 + 3, none⟩ = some (.int .i64 p.ticks) ∧ (wr.setCell ⟨gq, k * 4 + 2, none⟩ (.bool true)).frozen? ⟨gq, k * 4 + 3, none⟩ = false ∧
    Ch ((wr.setCell ⟨gq, k * 4 + 2, none⟩ (.bool true)).setCell ⟨gq, k * 4 + 3, none⟩ (.int .i64 0)) B g m (.slice (some ⟨gq, 0, none⟩) n c) (s.withQ (mapN freshP (k + 1) s.q)) ∧
    Turn w ((wr.setCell ⟨gq, k * 4 + 2, none⟩ (.bool true)).setCell ⟨gq, k * 4 + 3, none⟩ (.int .i64 0)) g m (.slice (some ⟨gq, 0, none⟩) n c) (.slice (some ⟨gq, 0, none⟩) n c) ∧
    ((wr.setCell ⟨gq, k * 4 + 2, none⟩ (.bool true)).setCell ⟨gq, k * 4 + 3, none⟩ (.int .i64 0)).ownsRow w.heap.size 96 4 l (outL k s.q).length (qcs (outL k s.q)) ∧
    (∀ f, f < 4 → ((wr.setCell ⟨gq, k * 4 + 2, none⟩ (.bool true)).setCell ⟨gq, k * 4 + 3, none⟩ (.int .i64 0)).cell? ⟨gq, k * 4 + f, none⟩ = ([.int .i64 p.seq, p.v, .bool true, .int .i64 0] : List Value)[f]?) := by
  have hk := (List.getElem?_eq_some_iff.1 hp).1
  have hpk := mapN_at freshP hp
  have hpos : ∀ q, (s.withQ q).q = q := fun _ => rfl
  obtain ⟨g', e1, _, _, _, _, hx⟩ := qcell h.ch.own (by rw [hpos, mapN_len]; omega)
  injection e1 with e1
  injection e1 with e1 _ _
  subst e1
  obtain ⟨c2, t2, f2⟩ := h.ch.put k 2 p ⟨p.seq, p.v, p.body, true, p.ticks⟩ (.bool true) hpk (by decide) rfl ⟨rfl, rfl⟩
  have hp2 : ((mapN freshP k s.q).set k ⟨p.seq, p.v, p.body, true, p.ticks⟩)[k]? = some ⟨p.seq, p.v, p.body, true, p.ticks⟩ := by
    rw [List.getElem?_set_self (by rw [mapN_len]; exact hk)]
  obtain ⟨g2, e4, _, _, _, _, hx2⟩ := qcell c2.own (by rw [hpos, List.length_set, mapN_len]; omega)
  obtain ⟨c3, t3, f3⟩ := c2.put k 3 _ ⟨p.seq, p.v, p.body, true, 0⟩ (.int .i64 0) hp2 (by decide) rfl ⟨rfl, rfl⟩
  injection e4 with e4
  injection e4 with e4 _ _
  subst e4
  have hn : ((mapN freshP k s.q).set k ⟨p.seq, p.v, p.body, true, p.ticks⟩).set k ⟨p.seq, p.v, p.body, true, 0⟩ = mapN freshP (k + 1) s.q := by
    rw [List.set_set, mapN_next freshP hp]
    unfold freshP
    rw [if_pos hd]
  rw [hn] at c3
  have hp3 : (mapN freshP (k + 1) s.q)[k]? = some ⟨p.seq, p.v, p.body, true, 0⟩ := by
    rw [← hn, List.getElem?_set_self (by rw [List.length_set, mapN_len]; exact hk)]
  obtain ⟨g3, e3, _, _, _, _, hx3⟩ := qcell c3.own (by rw [hpos, mapN_len]; omega)
  injection e3 with e3
  injection e3 with e3 _ _
  subst e3
  have o2 : Only (· = gq) wr ((wr.setCell ⟨gq, k * 4 + 2, none⟩ (.bool true)).setCell ⟨gq, k * 4 + 3, none⟩ (.int .i64 0)) := Only.set (p := (· = gq)) (Only.set (p := (· = gq)) (Only.refl _ _) gq _ _ rfl) gq _ _ rfl
  refine ⟨fun b hb => by rw [← hb]; exact hx k p hpk 2 (by omega), f2, hx2 k _ hp2 3 (by omega), f3, c3, (h.tu.trans t2).trans t3, own_hi h.own o2 (fun i hi => by rw [hi]; exact hl.q gq rfl), fun f hf => hx3 k _ hp3 f hf⟩
set_option maxRecDepth 100000 in
set_option maxHeartbeats 4000000 in
theorem leave_ok (B g m : Nat) (vq : Value) (s : CS) (w : World) (h : Ch w B g m vq s) (hl : s.q.length ≤ 32) (ht : ∀ p ∈ s.q, 0 ≤ p.ticks ∧ p.ticks ≤ 1000000000) :
    Calls Try.prog 48 #[.pointer (some ⟨g, 0, none⟩)] w fun r w' => LvR B g m vq s w r w' := by
  obtain ⟨aq, cq, hvq⟩ := own_one h.own
  subst hvq
  have hcq : s.q.length ≤ cq := by
    rcases h.own.2 with ⟨e, h0⟩ | ⟨g, cap, cur, e, _, _, h3, _⟩
    · omega
    · injection e with _ _ e; omega
  have HW := hide (window_ok g s.q.length cq aq w (h.row.cell 1) hcq hl)
  have HLT := hide h.lt
  have HH : Hid (LvI w w B g m (.slice aq s.q.length cq) s 0 (.slice none 0 0)) := hide ⟨by rw [mapN_zero]; exact h, Turn.refl _ _ _ _, ⟨rfl, .inl ⟨rfl, rfl⟩⟩⟩
  obtain ⟨n, hn⟩ : ∃ n, s.q.length = n := ⟨_, rfl⟩
  have HN := hide hn
  rw [hn] at hl HW HH HLT ⊢
  obtain ⟨M, hM⟩ : ∃ M, min n 4 = M := ⟨_, rfl⟩
  have hMn : M ≤ n := by omega
  have hM4 : M ≤ 4 := by omega
  have HAG : Hid (LvR B g m (.slice aq n cq) s = fun w r w' => ∃ l, r = .returned l ∧ LvI w w' B g m (.slice aq n cq) s M l) := hide (by unfold LvR; rw [hn, hM])
  rw [hM] at HW
  clear h hcq hn ht hM
  obtain ⟨B0, hB0⟩ : ∃ B0, w.heap.size = B0 := ⟨_, rfl⟩
  have HBW := hide hB0
  clear hB0
  obtain ⟨i96, hi1, hi2, hi3, hi4⟩ := info_parts infoPar
  have hi96 := hide (And.intro hi1 (And.intro hi2 (And.intro hi3 hi4)))
  clear hi1 hi2 hi3 hi4
  go_enter Try.func48, Try.ntmps48
  go_wp2_with fail
  refine Calls.mono (unhide HW) ?_
  rintro r w' ⟨rfl, rfl⟩
  clear HW
  go_wp2_with fail
  go_loopw [3, 11] (fun l i wr => ∃ k : Nat, k ≤ M ∧ i = .int .i64 (k : Int) ∧ Hid (LvI w wr B g m (.slice aq n cq) s k l)) (fun _ i _ => M - (intOf i).toNat)
  case atStart => exact ⟨0, by omega, rfl, HH⟩
  case round =>
    clear HH
    obtain ⟨k, hk, rfl, HI⟩ := hrel
    obtain ⟨al, cl, hal⟩ := own_one (unhide HI).own
    subst hal
    obtain ⟨nl, hnl⟩ : ∃ z, (outL k s.q).length = z := ⟨_, rfl⟩
    have HNL := hide hnl
    rw [hnl] at HI ⊢
    clear hnl
    by_cases g1 : k < M
    · have i1 : (k : Int) < (M : Int) := by omega
      have i0 : (0 : Int) ≤ (k : Int) := by omega
      obtain ⟨p, hp⟩ : ∃ p, s.q[k]? = some p := ⟨_, List.getElem?_eq_getElem (by rw [unhide HN]; omega)⟩
      have hpk := mapN_at freshP hp
      obtain ⟨gq, rfl, _, hc, hcm, _, hx⟩ := qcell (unhide HI).ch.own (by rw [show (s.withQ (mapN freshP k s.q)).q = mapN freshP k s.q from rfl, mapN_len, unhide HN]; omega)
      have q2 : wr.cell? ⟨gq, k * 4 + 2, none⟩ = some (.bool p.sent) := hx k p hpk 2 (by omega)
      have q3 : wr.cell? ⟨gq, k * 4 + 3, none⟩ = some (.int .i64 p.ticks) := hx k p hpk 3 (by omega)
      have q0 : wr.cell? ⟨gq, k * 4, none⟩ = some (.int .i64 p.seq) := hx k p hpk 0 (by omega)
      have q1 : wr.cell? ⟨gq, k * 4 + 1, none⟩ = some p.v := hx k p hpk 1 (by omega)
      have HGQ : Hid (gq < B0) := hide (by rw [← unhide HBW]; exact (unhide HLT).q gq rfl)
      have HP := hide hp
      have HNX := hide (mapN_next freshP hp)
      have HPK := hide hpk
      clear hx hcm hp hpk hc
      obtain ⟨tk, htk⟩ : ∃ z, p.ticks = z := ⟨_, rfl⟩
      have HTK := hide htk
      rw [htk] at q3
      clear htk
      cases hs : p.sent with
      | false =>
        rw [hs] at q2
        have HD : Hid (duE p = true) := hide (by unfold duE; rw [hs]; rfl)
        have HST := hide (lv_store (unhide HI) (unhide HLT) (unhide HP) (unhide HD))
        have y2 := (unhide HST).1 false hs
        have y2f := (unhide HST).2.1
        have y3 := (unhide HST).2.2.1
        have y3f := (unhide HST).2.2.2.1
        have HCZ := hide (unhide HST).2.2.2.2.1
        have HTZ := hide (unhide HST).2.2.2.2.2.1
        have HLZ := hide (unhide HST).2.2.2.2.2.2.1
        have HXC := hide (unhide HST).2.2.2.2.2.2.2
        have HBZ : Hid (B0 ≤ ((wr.setCell ⟨gq, k * 4 + 2, none⟩ (.bool true)).setCell ⟨gq, k * 4 + 3, none⟩ (.int .i64 0)).heap.size) := hide (by rw [← unhide HBW]; exact (unhide HTZ).1.size)
        have HOL : Hid ((outL k s.q).length ≤ 32) := hide (by have := outL_len k s.q; omega)
        have HON : Hid (outL (k + 1) s.q = outL k s.q ++ [⟨p.seq, p.v, p.body, true, 0⟩]) := hide (by rw [outL_next (unhide HP), if_pos (unhide HD)])
        have HPV : Hid (p.v.oneCell' = true) := hide ((unhide HI).ch.bod p (List.mem_of_getElem? (mapN_at freshP (unhide HP)))).one
        have HLT9 := hide ((unhide HLT).mapN freshP freshP_v (k + 1))
        have HEX : Hid (∀ w3 l, Ch w3 B g m (.slice (some ⟨gq, 0, none⟩) n cq) (s.withQ (mapN freshP (k + 1) s.q)) → Turn w w3 g m (.slice (some ⟨gq, 0, none⟩) n cq) (.slice (some ⟨gq, 0, none⟩) n cq) → w3.ownsRow w.heap.size 96 4 l ((outL k s.q).length + 1) (qcs (outL k s.q) ++ [.int .i64 p.seq, p.v, .bool true, .int .i64 0]) → LvI w w3 B g m (.slice (some ⟨gq, 0, none⟩) n cq) s (k + 1) l) := hide (fun w3 l h1 h2 h3 => ⟨h1, h2, by rw [unhide HON, List.length_append, qcs_app]; exact h3⟩)
        clear HI HST hs
        rw [unhide HTK] at y3
        rw [unhide HBW] at HLZ HEX HLT9
        go_wp2_with (at_builtin; refine unhide ?_)
        refine hide ?_
        clear q0 q1 q2 q3 y2 y2f y3 y3f
        have HSZ : Hid (((wr.setCell ⟨gq, k * 4 + 2, none⟩ (.bool true)).setCell ⟨gq, k * 4 + 3, none⟩ (.int .i64 0)).heap.size = wr.heap.size) := hide (by simp)
        generalize ((wr.setCell ⟨gq, k * 4 + 2, none⟩ (.bool true)).setCell ⟨gq, k * 4 + 3, none⟩ (.int .i64 0)) = wz at *
        obtain ⟨ol, hol⟩ : ∃ z, outL k s.q = z := ⟨_, rfl⟩
        rw [hol] at HLZ HOL HEX HON HNL
        rw [unhide HNL] at HLZ HOL HEX
        have b1 : Below wz.heap.size wz (wz.alloc (.cells #[.int .i64 p.seq, p.v, .bool true, .int .i64 0] 96)) := (Below.refl _ _).alloc (Nat.le_refl _) _
        have HC1 := hide ((unhide HCZ).call b1)
        have HT1 := hide ((unhide HTZ).trans (Turn.below b1))
        have HL1 := hide (own_call (unhide HLZ) b1)
        have HQ := hide (RowAt.new wz 96 [.int .i64 p.seq, p.v, .bool true, .int .i64 0])
        have HB1 : Hid (B0 ≤ (wz.alloc (.cells #[.int .i64 p.seq, p.v, .bool true, .int .i64 0] 96)).heap.size) := hide (Nat.le_trans (unhide HBZ) b1.size)
        obtain ⟨w1, hw1⟩ : ∃ z, (wz.alloc (.cells #[.int .i64 p.seq, p.v, .bool true, .int .i64 0] 96)) = z := ⟨_, rfl⟩
        obtain ⟨q9, hq9⟩ : ∃ z, wr.heap.size = z := ⟨_, rfl⟩
        rw [hw1] at HC1 HT1 HL1 HQ HB1 ⊢
        rw [unhide HSZ, hq9] at HQ
        rw [hq9]
        clear HSZ hw1 hq9 b1 HCZ HTZ HLZ HBZ
        refine wpList_append_lies _ rfl _ _ _ rfl B0 96 i96 (.agg #[.int .i64 0, .slice none 0 0, .bool false, .int .i64 0]) 4 48 Try.underlying73 (unhide hi96).1 (unhide hi96).2.1 (unhide hi96).2.2.1 (unhide hi96).2.2.2 (by rfl) (by omega) (.slice al nl cl) nl (qcs ol) (by rfl) (unhide HL1) ⟨q9, 0, none⟩ 1 1 [.int .i64 p.seq, p.v, .bool true, .int .i64 0] (by rfl) (by rfl) ?hnews ?h1 (by omega) ?h63 ?hby (unhide HB1) _ rfl ?_
        case hnews => exact fun j u hu => by rw [add_plain, (unhide HQ).cell, Nat.zero_add]; exact hu
        case h1 =>
          intro u hu
          simp only [List.mem_cons, List.not_mem_nil, or_false] at hu
          rcases hu with rfl | rfl | rfl | rfl
          · rfl
          · exact unhide HPV
          · rfl
          · rfl
        case h63 => have := unhide HOL; unfold maxLen; omega
        case hby => have := unhide HOL; omega
        intro j9 cap w3 hv3 hg3 hk3 _
        have ho4 : Only (fun i => B0 ≤ i) w1 w3 := (grown_only hg3).mono (fun i hi => ((unhide HL1).lt i hi).1)
        have HFI := hide (unhide HEX w3 _ ((unhide HC1).hi (unhide HLT9) ho4) ⟨(unhide HT1).1.next ho4 (fun i hi => .inr (by rw [unhide HBW]; exact hi)), fun i hi => .inl hi⟩ hv3)
        clear hv3 hg3 hk3 ho4 HC1 HT1 HL1 HB1 HQ HEX
        go_wp2_with fail
        go_roundw
        case rel => exact ⟨k + 1, by omega, by go_num, HFI⟩
        case measure => simp [intOf]; omega
      | true =>
        rw [hs] at q2
        by_cases g3 : tk < 3
        · have HD : Hid (duE p = false) := hide (by unfold duE; rw [hs, unhide HTK]; simp [g3])
          have HF : Hid (freshP p = p) := hide (by unfold freshP; rw [unhide HD]; rfl)
          have HSET : Hid (LvI w wr B g m (.slice (some ⟨gq, 0, none⟩) n cq) s (k + 1) (.slice al nl cl)) := hide (by
            have h9 := unhide HI
            refine ⟨by rw [unhide HNX, unhide HF, set_self _ _ _ (unhide HPK)]; exact h9.ch, h9.tu, ?_⟩
            rw [outL_next (unhide HP), unhide HD]
            exact h9.own)
          clear hs
          go_wp2_with fail
          go_roundw
          case rel => exact ⟨k + 1, by omega, by go_num, HSET⟩
          case measure => simp [intOf]; omega
        · have g4 : 3 ≤ tk := by omega
          have HD : Hid (duE p = true) := hide (by unfold duE; rw [hs, unhide HTK]; simp [g3])
          have HST := hide (lv_store (unhide HI) (unhide HLT) (unhide HP) (unhide HD))
          have y2 := (unhide HST).1 true hs
          have y2f := (unhide HST).2.1
          have y3 := (unhide HST).2.2.1
          have y3f := (unhide HST).2.2.2.1
          have HCZ := hide (unhide HST).2.2.2.2.1
          have HTZ := hide (unhide HST).2.2.2.2.2.1
          have HLZ := hide (unhide HST).2.2.2.2.2.2.1
          have HXC := hide (unhide HST).2.2.2.2.2.2.2
          have HBZ : Hid (B0 ≤ ((wr.setCell ⟨gq, k * 4 + 2, none⟩ (.bool true)).setCell ⟨gq, k * 4 + 3, none⟩ (.int .i64 0)).heap.size) := hide (by rw [← unhide HBW]; exact (unhide HTZ).1.size)
          have HOL : Hid ((outL k s.q).length ≤ 32) := hide (by have := outL_len k s.q; omega)
          have HON : Hid (outL (k + 1) s.q = outL k s.q ++ [⟨p.seq, p.v, p.body, true, 0⟩]) := hide (by rw [outL_next (unhide HP), if_pos (unhide HD)])
          have HPV : Hid (p.v.oneCell' = true) := hide ((unhide HI).ch.bod p (List.mem_of_getElem? (mapN_at freshP (unhide HP)))).one
          have HLT9 := hide ((unhide HLT).mapN freshP freshP_v (k + 1))
          have HEX : Hid (∀ w3 l, Ch w3 B g m (.slice (some ⟨gq, 0, none⟩) n cq) (s.withQ (mapN freshP (k + 1) s.q)) → Turn w w3 g m (.slice (some ⟨gq, 0, none⟩) n cq) (.slice (some ⟨gq, 0, none⟩) n cq) → w3.ownsRow w.heap.size 96 4 l ((outL k s.q).length + 1) (qcs (outL k s.q) ++ [.int .i64 p.seq, p.v, .bool true, .int .i64 0]) → LvI w w3 B g m (.slice (some ⟨gq, 0, none⟩) n cq) s (k + 1) l) := hide (fun w3 l h1 h2 h3 => ⟨h1, h2, by rw [unhide HON, List.length_append, qcs_app]; exact h3⟩)
          clear HI HST hs
          rw [unhide HTK] at y3
          rw [unhide HBW] at HLZ HEX HLT9
          go_wp2_with (at_builtin; refine unhide ?_)
          refine hide ?_
          clear q0 q1 q2 q3 y2 y2f y3 y3f
          have HSZ : Hid (((wr.setCell ⟨gq, k * 4 + 2, none⟩ (.bool true)).setCell ⟨gq, k * 4 + 3, none⟩ (.int .i64 0)).heap.size = wr.heap.size) := hide (by simp)
          generalize ((wr.setCell ⟨gq, k * 4 + 2, none⟩ (.bool true)).setCell ⟨gq, k * 4 + 3, none⟩ (.int .i64 0)) = wz at *
          obtain ⟨ol, hol⟩ : ∃ z, outL k s.q = z := ⟨_, rfl⟩
          rw [hol] at HLZ HOL HEX HON HNL
          rw [unhide HNL] at HLZ HOL HEX
          have b1 : Below wz.heap.size wz (wz.alloc (.cells #[.int .i64 p.seq, p.v, .bool true, .int .i64 0] 96)) := (Below.refl _ _).alloc (Nat.le_refl _) _
          have HC1 := hide ((unhide HCZ).call b1)
          have HT1 := hide ((unhide HTZ).trans (Turn.below b1))
          have HL1 := hide (own_call (unhide HLZ) b1)
          have HQ := hide (RowAt.new wz 96 [.int .i64 p.seq, p.v, .bool true, .int .i64 0])
          have HB1 : Hid (B0 ≤ (wz.alloc (.cells #[.int .i64 p.seq, p.v, .bool true, .int .i64 0] 96)).heap.size) := hide (Nat.le_trans (unhide HBZ) b1.size)
          obtain ⟨w1, hw1⟩ : ∃ z, (wz.alloc (.cells #[.int .i64 p.seq, p.v, .bool true, .int .i64 0] 96)) = z := ⟨_, rfl⟩
          obtain ⟨q9, hq9⟩ : ∃ z, wr.heap.size = z := ⟨_, rfl⟩
          rw [hw1] at HC1 HT1 HL1 HQ HB1 ⊢
          rw [unhide HSZ, hq9] at HQ
          rw [hq9]
          clear HSZ hw1 hq9 b1 HCZ HTZ HLZ HBZ
          refine wpList_append_lies _ rfl _ _ _ rfl B0 96 i96 (.agg #[.int .i64 0, .slice none 0 0, .bool false, .int .i64 0]) 4 48 Try.underlying73 (unhide hi96).1 (unhide hi96).2.1 (unhide hi96).2.2.1 (unhide hi96).2.2.2 (by rfl) (by omega) (.slice al nl cl) nl (qcs ol) (by rfl) (unhide HL1) ⟨q9, 0, none⟩ 1 1 [.int .i64 p.seq, p.v, .bool true, .int .i64 0] (by rfl) (by rfl) ?hnews ?h1 (by omega) ?h63 ?hby (unhide HB1) _ rfl ?_
          case hnews => exact fun j u hu => by rw [add_plain, (unhide HQ).cell, Nat.zero_add]; exact hu
          case h1 =>
            intro u hu
            simp only [List.mem_cons, List.not_mem_nil, or_false] at hu
            rcases hu with rfl | rfl | rfl | rfl
            · rfl
            · exact unhide HPV
            · rfl
            · rfl
          case h63 => have := unhide HOL; unfold maxLen; omega
          case hby => have := unhide HOL; omega
          intro j9 cap w3 hv3 hg3 hk3 _
          have ho4 : Only (fun i => B0 ≤ i) w1 w3 := (grown_only hg3).mono (fun i hi => ((unhide HL1).lt i hi).1)
          have HFI := hide (unhide HEX w3 _ ((unhide HC1).hi (unhide HLT9) ho4) ⟨(unhide HT1).1.next ho4 (fun i hi => .inr (by rw [unhide HBW]; exact hi)), fun i hi => .inl hi⟩ hv3)
          clear hv3 hg3 hk3 ho4 HC1 HT1 HL1 HB1 HQ HEX
          go_wp2_with fail
          go_roundw
          case rel => exact ⟨k + 1, by omega, by go_num, HFI⟩
          case measure => simp [intOf]; omega
    · have i1 : ¬ (k : Int) < (M : Int) := by omega
      have hkM : k = M := by omega
      rw [hkM] at HI
      go_wp2_with fail
      go_ret
      rw [unhide HAG]
      exact ⟨_, rfl, unhide HI⟩
end Go.Proofs.Ytmkpphkdaiienaa
