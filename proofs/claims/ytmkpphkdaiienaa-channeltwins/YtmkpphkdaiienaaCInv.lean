/- What an end is behind any calls: no model in it. -/
import Derived.Test.YtmkpphkdaiienaaCAw
namespace Go.Proofs.Ytmkpphkdaiienaa
set_option linter.unusedVariables false
set_option linter.unusedSimpArgs false
open Go.ChangeShapes Go.WideShapes Go.ChangeAt Go.RowKit Go.Joins Go.Deep

theorem tell_mono : ∀ (f : Nat) (a : Int) (E : List Er), a ≤ (tellE f a E).2.1
  | 0, a, E => Int.le_refl _
  | f + 1, a, E => by
    unfold tellE
    split
    · exact Int.le_refl _
    · have := tell_mono f (a + 1) (E.eraseP (fun x => decide (x.key = a)))
      dsimp only
      omega
theorem tell_done : ∀ (f : Nat) (a : Int) (E : List Er), E.length ≤ f → lookE (tellE f a E).2.1 (tellE f a E).2.2 = none
  | 0, a, E, h => by
    have : E = [] := List.eq_nil_of_length_eq_zero (by omega)
    rw [this]
    rfl
  | f + 1, a, E, h => by
    unfold tellE
    split
    · assumption
    · rename_i x hx
      have := lookE_erase hx
      exact tell_done f (a + 1) _ (by omega)
theorem lookE_other {k a : Int} (hk : k ≠ a) : ∀ E : List Er, lookE k (E.eraseP (fun x => decide (x.key = a))) = lookE k E
  | [] => rfl
  | x :: r => by
    by_cases hx : x.key = a
    · rw [List.eraseP_cons_of_pos (by simp [hx])]
      unfold lookE
      rw [List.find?_cons_of_neg (by simp [hx]; exact fun e => hk e.symm)]
    · rw [List.eraseP_cons_of_neg (by simp [hx])]
      unfold lookE
      by_cases hxk : x.key = k
      · rw [List.find?_cons_of_pos (by simp [hxk]), List.find?_cons_of_pos (by simp [hxk])]
      · rw [List.find?_cons_of_neg (by simp [hxk]), List.find?_cons_of_neg (by simp [hxk])]
        exact lookE_other hk r
theorem tell_key : ∀ (f : Nat) (a : Int) (E : List Er) (k : Int), (lookE k E).isSome = true → k < (tellE f a E).2.1 ∨ (lookE k (tellE f a E).2.2).isSome = true
  | 0, a, E, k, h => .inr h
  | f + 1, a, E, k, h => by
    unfold tellE
    split
    · exact .inr h
    · by_cases hk : k = a
      · left
        have := tell_mono f (a + 1) (E.eraseP (fun x => decide (x.key = a)))
        dsimp only
        omega
      · exact tell_key f (a + 1) _ k (by rw [lookE_other hk]; exact h)
theorem tell_len : ∀ (f : Nat) (a : Int) (E : List Er), (tellE f a E).2.1 + ((tellE f a E).2.2.length : Int) = a + (E.length : Int)
  | 0, a, E => rfl
  | f + 1, a, E => by
    unfold tellE
    split
    · rfl
    · rename_i x hx
      have h1 := lookE_erase hx
      have h2 := tell_len f (a + 1) (E.eraseP (fun x => decide (x.key = a)))
      dsimp only
      omega
theorem tell_sub : ∀ (f : Nat) (a : Int) (E : List Er) (x : Er), x ∈ (tellE f a E).2.2 → x ∈ E
  | 0, a, E, x, h => h
  | f + 1, a, E, x, h => by
    unfold tellE at h
    split at h
    · exact h
    · exact List.mem_of_mem_eraseP (tell_sub f (a + 1) _ x h)
theorem tell_none {f : Nat} {a : Int} {E : List Er} (h : lookE a E = none) : tellE f a E = ([], a, E) := by
  cases f with
  | zero => rfl
  | succ f => simp [tellE, h]
/-- of an end of connection c behind N calls -/
structure Inv (N : Nat) (c : Int) (s : CS) : Prop where
  conn : s.conn = c
  n0 : 1 ≤ s.next
  n1 : s.next ≤ 1099511627777
  nN : s.next ≤ 1 + (N : Int)
  q : s.q.length ≤ 32
  w0 : 1 ≤ s.want
  w1 : s.want + (s.early.length : Int) ≤ 1 + (N : Int)
  seq : ∀ (i : Nat) (p : Par), s.q[i]? = some p → p.seq = s.next - (s.q.length : Int) + (i : Int)
  tick : ∀ p ∈ s.q, 0 ≤ p.ticks ∧ p.ticks ≤ (N : Int)
  body : ∀ p ∈ s.q, p.body ≠ [] ∧ p.body.length ≤ 16320
  eok : EOk s
  nw : lookE s.want s.early = none
theorem Inv.new (c : Int) : Inv 0 c (newS c) := ⟨rfl, by simp [newS], by simp [newS], by simp [newS], by simp [newS], by simp [newS], by simp [newS], fun i p h => by simp [newS] at h, fun p h => (by cases h), fun p h => (by cases h), fun p h => (by cases h), rfl⟩
theorem Inv.ok {N : Nat} {c : Int} {s : CS} (h : Inv N c s) (hc : c ≠ 0) (hN : N ≤ 1000000) : s.Ok := ⟨h.n0, h.n1, h.w0, by have := h.w1; omega, h.q, by rw [h.conn]; exact hc⟩
theorem Inv.el {N : Nat} {c : Int} {s : CS} (h : Inv N c s) : s.early.length ≤ N := by have := h.w1; have := h.w0; omega
theorem Inv.ti {N : Nat} {c : Int} {s : CS} (h : Inv N c s) (hN : N ≤ 1000000) : ∀ p ∈ s.q, 0 ≤ p.ticks ∧ p.ticks ≤ 1000000000 := fun p hp => by have := h.tick p hp; omega
theorem Inv.bo {N : Nat} {c : Int} {s : CS} (h : Inv N c s) : ∀ p ∈ s.q, p.body.length ≤ 1000000000 := fun p hp => by have := h.body p hp; omega
theorem Inv.more {N : Nat} {c : Int} {s : CS} (h : Inv N c s) : Inv (N + 1) c s :=
  ⟨h.conn, h.n0, h.n1, by have := h.nN; omega, h.q, h.w0, by have := h.w1; omega, h.seq, fun p hp => by have := h.tick p hp; omega, h.body, h.eok, h.nw⟩
theorem Inv.send {N : Nat} {c : Int} {s : CS} (h : Inv N c s) (v : Value) (l : List Nat) : Inv (N + 1) c (sendS s v l) := by
  unfold sendS
  split
  · rename_i he
    have h1 : l.length ≠ 0 ∧ l.length ≤ 16320 ∧ s.q.length < 32 ∧ s.next ≤ 1099511627776 := by
      unfold sendE at he
      split at he
      · cases he
      · split at he
        · cases he
        · split at he
          · cases he
          · split at he
            · cases he
            · exact ⟨by assumption, by omega, by omega, by omega⟩
    have n0 := h.n0
    have nN := h.nN
    refine ⟨h.conn, by show 1 ≤ s.next + 1; omega, by show s.next + 1 ≤ _; omega, by show s.next + 1 ≤ _; omega, by show (s.q ++ [_]).length ≤ 32; rw [List.length_append, List.length_singleton]; omega, h.w0, by have := h.w1; show s.want + (s.early.length : Int) ≤ _; omega, fun i p hp => ?_, fun p hp => ?_, fun p hp => ?_, h.eok, h.nw⟩
    · have hp' : (s.q ++ [⟨s.next, v, l, false, 0⟩])[i]? = some p := hp
      show p.seq = s.next + 1 - ((s.q ++ [_]).length : Int) + (i : Int)
      rw [List.length_append, List.length_singleton]
      by_cases hi : i < s.q.length
      · rw [List.getElem?_append_left hi] at hp'
        have := h.seq i p hp'
        omega
      · rw [List.getElem?_append_right (by omega)] at hp'
        have hi2 : i - s.q.length = 0 := by
          rcases Nat.eq_zero_or_pos (i - s.q.length) with e | e
          · exact e
          · rw [List.getElem?_eq_none (by simp; omega)] at hp'; cases hp'
        rw [hi2] at hp'
        obtain rfl : (⟨s.next, v, l, false, 0⟩ : Par) = p := by simpa using hp'
        show s.next = _
        omega
    · rcases List.mem_append.1 hp with hp | hp
      · have := h.tick p hp; omega
      · obtain rfl := List.mem_singleton.1 hp
        exact ⟨Int.le_refl _, by show (0 : Int) ≤ _; omega⟩
    · rcases List.mem_append.1 hp with hp | hp
      · exact h.body p hp
      · obtain rfl := List.mem_singleton.1 hp
        exact ⟨fun e => h1.1 (by rw [show l = [] from e]; rfl), h1.2.1⟩
  · exact h.more
theorem ackN_le' (a : Int) (q : List Par) : (q.drop (ackN a q)).length + ackN a q = q.length := by
  have := ackN_le a q
  rw [List.length_drop]
  omega
theorem Inv.ack {N : Nat} {c : Int} {s : CS} (h : Inv N c s) (a : Int) : Inv N c (ackS s a) := by
  have hl := ackN_le' a s.q
  refine ⟨h.conn, h.n0, h.n1, h.nN, by show (s.q.drop _).length ≤ 32; have := h.q; omega, h.w0, h.w1, fun i p hp => ?_, fun p hp => h.tick p (List.mem_of_mem_drop hp), fun p hp => h.body p (List.mem_of_mem_drop hp), h.eok, h.nw⟩
  have hp' : (s.q.drop (ackN a s.q))[i]? = some p := hp
  rw [List.getElem?_drop] at hp'
  have := h.seq _ p hp'
  show p.seq = s.next - ((s.q.drop (ackN a s.q)).length : Int) + (i : Int)
  omega
theorem Inv.take {N : Nat} {c : Int} {s : CS} (h : Inv N c s) (cc q a : Int) (b : List Nat) (v : Value) : Inv (N + 1) c (takeS s cc q a b v) := by
  unfold takeS
  split
  · exact h.more
  · rename_i he
    split
    · exact (h.ack a).more
    · rename_i hq
      have hb : b ≠ [] := fun e => by
        apply he
        unfold takeE
        split
        · decide
        · rw [if_pos]
          · decide
          · right; right
            intro hh
            exact hq (hh.2 (by rw [e]; rfl))
      have h1 := h.ack a
      have hk : (keepS (ackS s a) q v b).early.length ≤ s.early.length + 1 := keepS_len _ _ _ _
      have hw : (keepS (ackS s a) q v b).want = s.want := keepS_want _ _ _ _
      have hE := EOk.keep (k := q) (v := v) h1.eok hb
      have hl := tell_len (keepS (ackS s a) q v b).early.length (keepS (ackS s a) q v b).want (keepS (ackS s a) q v b).early
      have hm := tell_mono (keepS (ackS s a) q v b).early.length (keepS (ackS s a) q v b).want (keepS (ackS s a) q v b).early
      have hd := tell_done (keepS (ackS s a) q v b).early.length (keepS (ackS s a) q v b).want (keepS (ackS s a) q v b).early (Nat.le_refl _)
      have hq' : (keepS (ackS s a) q v b).q = (ackS s a).q := by unfold keepS; split <;> rfl
      have hn' : (keepS (ackS s a) q v b).next = (ackS s a).next := by unfold keepS; split <;> rfl
      have hc' : (keepS (ackS s a) q v b).conn = (ackS s a).conn := by unfold keepS; split <;> rfl
      have w0 := h.w0
      have w1 := h.w1
      refine ⟨hc'.trans h1.conn, by show 1 ≤ (keepS (ackS s a) q v b).next; rw [hn']; exact h1.n0, by show (keepS (ackS s a) q v b).next ≤ _; rw [hn']; exact h1.n1, by show (keepS (ackS s a) q v b).next ≤ _; rw [hn']; have := h1.nN; omega, by show (keepS (ackS s a) q v b).q.length ≤ 32; rw [hq']; exact h1.q, ?_, ?_, fun i p hp => ?_, fun p hp => ?_, fun p hp => ?_, fun x hx => hE x (tell_sub _ _ _ x hx), hd⟩
      · show 1 ≤ (tellE _ _ _).2.1
        omega
      · show (tellE _ _ _).2.1 + ((tellE _ _ _).2.2.length : Int) ≤ _
        omega
      · have hp' : (keepS (ackS s a) q v b).q[i]? = some p := hp
        show p.seq = (keepS (ackS s a) q v b).next - ((keepS (ackS s a) q v b).q.length : Int) + _
        rw [hq'] at hp' ⊢
        rw [hn']
        exact h1.seq i p hp'
      · have hp' : p ∈ (keepS (ackS s a) q v b).q := hp
        rw [hq'] at hp'
        have := h1.tick p hp'
        omega
      · have hp' : p ∈ (keepS (ackS s a) q v b).q := hp
        rw [hq'] at hp'
        exact h1.body p hp'
theorem mapN_seq {f : Par → Par} (hf : ∀ p, (f p).seq = p.seq) {k i : Nat} {q : List Par} {p : Par} (h : (mapN f k q)[i]? = some p) : ∃ p', q[i]? = some p' ∧ p.seq = p'.seq ∧ (p = p' ∨ p = f p') := by
  unfold mapN at h
  by_cases hi : i < (q.take k).length
  · rw [List.getElem?_append_left (by simpa using hi), List.getElem?_map] at h
    obtain ⟨p', h1, rfl⟩ := Option.map_eq_some_iff.1 h
    rw [List.getElem?_take] at h1
    split at h1
    · exact ⟨p', h1, hf p', .inr rfl⟩
    · cases h1
  · rw [List.getElem?_append_right (by simpa using hi), List.getElem?_drop] at h
    have e : k + (i - ((q.take k).map f).length) = i ∨ q.length ≤ i := by
      simp only [List.length_map, List.length_take] at hi ⊢
      omega
    rcases e with e | e
    · rw [e] at h
      exact ⟨p, h, rfl, .inl rfl⟩
    · have := (List.getElem?_eq_some_iff.1 h).1
      simp only [List.length_map, List.length_take] at hi this
      omega
theorem agePar_seq (p : Par) : (agePar p).seq = p.seq := by unfold agePar; split <;> rfl
theorem freshP_seq (p : Par) : (freshP p).seq = p.seq := by unfold freshP; split <;> rfl
theorem Inv.mapQ {N N' : Nat} {c : Int} {s : CS} (h : Inv N c s) (hN : N ≤ N') (f : Par → Par) (hf : ∀ p, (f p).seq = p.seq) (hb : ∀ p, (f p).body = p.body) (ht : ∀ p, 0 ≤ p.ticks ∧ p.ticks ≤ (N : Int) → 0 ≤ (f p).ticks ∧ (f p).ticks ≤ (N' : Int)) (k : Nat) (o : Bool) : Inv N' c ((s.withQ (mapN f k s.q)).withE s.want s.early o) := by
  refine ⟨h.conn, h.n0, h.n1, by have := h.nN; show s.next ≤ _; omega, by show (mapN f k s.q).length ≤ 32; rw [mapN_len]; exact h.q, h.w0, by have := h.w1; show s.want + (s.early.length : Int) ≤ _; omega, fun i p hp => ?_, fun p hp => ?_, fun p hp => ?_, h.eok, h.nw⟩
  · obtain ⟨p', h1, h2, _⟩ := mapN_seq hf (show (mapN f k s.q)[i]? = some p from hp)
    rw [h2, h.seq i p' h1]
    show _ = s.next - ((mapN f k s.q).length : Int) + _
    rw [mapN_len]
  · obtain ⟨p', h1, rfl | rfl⟩ := mapN_mem (show p ∈ mapN f k s.q from hp)
    · have := h.tick _ h1; omega
    · exact ht p' (h.tick p' h1)
  · obtain ⟨p', h1, rfl | rfl⟩ := mapN_mem (show p ∈ mapN f k s.q from hp)
    · exact h.body _ h1
    · rw [hb]; exact h.body p' h1
def tickS (s : CS) : CS := s.withQ (mapN agePar (min s.q.length 4) s.q)
theorem Inv.tickI {N : Nat} {c : Int} {s : CS} (h : Inv N c s) : Inv (N + 1) c (tickS s) :=
  h.mapQ (by omega) agePar agePar_seq (fun p => by unfold agePar; split <;> rfl) (fun p hp => by
    unfold agePar
    split
    · show 0 ≤ p.ticks + 1 ∧ p.ticks + 1 ≤ _
      omega
    · omega) _ s.owes
theorem Inv.out {N : Nat} {c : Int} {s : CS} (h : Inv N c s) : Inv N c (outS s) :=
  h.mapQ (Nat.le_refl _) freshP freshP_seq freshP_b (fun p hp => by
    unfold freshP
    split
    · exact ⟨Int.le_refl _, by show (0 : Int) ≤ _; omega⟩
    · exact hp) _ false
theorem freshP_due (p : Par) : duE (freshP p) = false := by
  unfold freshP
  by_cases h : duE p = true
  · rw [if_pos h]; rfl
  · rw [if_neg h]; simpa using h
/-- what was sent just now is not sent again -/
theorem out_out (s : CS) : outs (outS s) = [] := by
  have hl : lvOf (outS s) = [] := by
    unfold lvOf outL
    have hq : (outS s).q = mapN freshP (min s.q.length 4) s.q := rfl
    rw [hq, mapN_len]
    have ht : (mapN freshP (min s.q.length 4) s.q).take (min s.q.length 4) = (s.q.take (min s.q.length 4)).map freshP := by
      unfold mapN
      rw [List.take_left' (by simp)]
    rw [ht]
    have : ((s.q.take (min s.q.length 4)).map freshP).filter duE = [] := by
      rw [List.filter_eq_nil_iff]
      intro p hp
      obtain ⟨p', _, rfl⟩ := List.mem_map.1 hp
      simp [freshP_due]
    rw [this]
    rfl
  unfold outs
  rw [hl]
  rfl
/-- a frame that came, comes again -/
theorem take_again {N : Nat} {k : Int} {s : CS} (h : Inv N k s) (c q a : Int) (b : List Nat) (v v' : Value) : takeE (takeS s c q a b v) c q a b.length = takeE s c q a b.length ∧ takeO (takeS s c q a b v) c q a b v' = [] ∧ (takeS (takeS s c q a b v) c q a b v').want = (takeS s c q a b v).want := by
  have hconn : (takeS s c q a b v).conn = s.conn := by rw [(h.take c q a b v).conn, h.conn]
  have hE : takeE (takeS s c q a b v) c q a b.length = takeE s c q a b.length := by unfold takeE; rw [hconn]
  refine ⟨hE, ?_⟩
  by_cases he : takeE s c q a b.length = 0
  rotate_left
  · have h1 : takeS s c q a b v = s := by unfold takeS; rw [if_pos he]
    rw [h1]
    exact ⟨by unfold takeO; rw [if_pos he], by unfold takeS; rw [if_pos he]⟩
  have hn : ¬ takeE s c q a b.length ≠ 0 := fun hh => hh he
  have hn2 : ¬ takeE (takeS s c q a b v) c q a b.length ≠ 0 := by rw [hE]; exact hn
  by_cases hq : q = 0
  · exact ⟨by unfold takeO; rw [if_neg hn2, if_pos hq], by rw [show ∀ t : CS, takeS t c q a b v' = if takeE t c q a b.length ≠ 0 then t else if q = 0 then ackS t a else toldS (keepS (ackS t a) q v' b) from fun _ => rfl, if_neg hn2, if_pos hq]; rfl⟩
  -- the body is not kept
  have hs : takeS s c q a b v = toldS (keepS (ackS s a) q v b) := by unfold takeS; rw [if_neg hn, if_neg hq]
  have hi := h.take c q a b v
  have key : q < (takeS s c q a b v).want ∨ 4 ≤ q - (takeS s c q a b v).want ∨ (lookE q (takeS s c q a b v).early).isSome = true := by
    rw [hs]
    show q < (tellE _ _ _).2.1 ∨ 4 ≤ q - (tellE _ _ _).2.1 ∨ (lookE q (tellE _ _ _).2.2).isSome = true
    unfold keepS
    split
    · rename_i hc
      have h0 : tellE (ackS s a).early.length (ackS s a).want (ackS s a).early = ([], s.want, s.early) := tell_none h.nw
      show q < (tellE (ackS s a).early.length (ackS s a).want (ackS s a).early).2.1 ∨ _
      rw [show ((ackS s a).withE (ackS s a).want (ackS s a).early true).early = (ackS s a).early from rfl, show ((ackS s a).withE (ackS s a).want (ackS s a).early true).want = (ackS s a).want from rfl, h0]
      exact hc
    · have : (lookE q ((ackS s a).early ++ [⟨q, v, b⟩])).isSome = true := by
        unfold lookE
        rw [List.find?_isSome]
        refine Exists.intro (⟨q, v, b⟩ : Er) ?_
        refine And.intro (List.mem_append_right _ (List.mem_singleton.2 rfl)) ?_
        simp
      rcases tell_key ((ackS s a).early ++ [(⟨q, v, b⟩ : Er)]).length (ackS s a).want ((ackS s a).early ++ [(⟨q, v, b⟩ : Er)]) q this with h1 | h1
      · exact .inl h1
      · exact .inr (.inr h1)
  have hk : keepS (ackS (takeS s c q a b v) a) q v' b = (ackS (takeS s c q a b v) a).withE (takeS s c q a b v).want (takeS s c q a b v).early true := by
    unfold keepS
    exact if_pos key
  constructor
  · unfold takeO
    rw [if_neg hn2, if_neg hq, hk]
    show (tellE (takeS s c q a b v).early.length (takeS s c q a b v).want (takeS s c q a b v).early).1 = []
    rw [tell_none hi.nw]
  · rw [show ∀ t : CS, takeS t c q a b v' = if takeE t c q a b.length ≠ 0 then t else if q = 0 then ackS t a else toldS (keepS (ackS t a) q v' b) from fun _ => rfl, if_neg hn2, if_neg hq, hk]
    show (tellE (takeS s c q a b v).early.length (takeS s c q a b v).want (takeS s c q a b v).early).2.1 = _
    rw [tell_none hi.nw]
end Go.Proofs.Ytmkpphkdaiienaa
