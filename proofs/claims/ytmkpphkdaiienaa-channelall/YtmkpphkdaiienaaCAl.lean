/- When nothing is lost all comes in the end: no model in it. -/
import Derived.Test.YtmkpphkdaiienaaCOr
namespace Go.Proofs.Ytmkpphkdaiienaa
set_option linter.unusedVariables false
set_option linter.unusedSimpArgs false
open Go.ChangeShapes Go.WideShapes Go.ChangeAt Go.RowKit Go.Joins Go.Deep

def Rec (s : CS) (n : Int) : Prop := n < s.want ∨ (lookE n s.early).isSome = true
def hd (s : CS) : Int := s.next - (s.q.length : Int)
def Sq (s : CS) : Prop := ∀ (i : Nat) (p : Par), s.q[i]? = some p → p.seq = hd s + (i : Int)
structure Mono (s s' : CS) : Prop where
  want : s.want ≤ s'.want
  rec_ : ∀ n, Rec s n → Rec s' n
  owes : s.owes = true → s'.owes = true
  next : s'.next = s.next
  conn : s'.conn = s.conn
  q : ∃ d, s'.q = s.q.drop d
theorem Mono.refl (s : CS) : Mono s s := ⟨Int.le_refl _, fun _ h => h, fun h => h, rfl, rfl, 0, by simp⟩
theorem Mono.trans {a b c : CS} (h : Mono a b) (k : Mono b c) : Mono a c := by
  obtain ⟨d, hd⟩ := h.q
  obtain ⟨e, he⟩ := k.q
  exact ⟨Int.le_trans h.want k.want, fun n hn => k.rec_ n (h.rec_ n hn), fun ho => k.owes (h.owes ho), k.next.trans h.next, k.conn.trans h.conn, d + e, by rw [he, hd, List.drop_drop]⟩
theorem keep_rec (s : CS) (k : Int) (v : Value) (b : List Nat) (n : Int) (h : Rec s n) : Rec (keepS s k v b) n := by
  rcases h with h | h
  · left; rw [keepS_want]; exact h
  · right
    unfold keepS
    split
    · exact h
    · show (lookE n (s.early ++ [⟨k, v, b⟩])).isSome = true
      unfold lookE at h ⊢
      rw [List.find?_isSome] at h ⊢
      obtain ⟨x, hx, hp⟩ := h
      exact ⟨x, List.mem_append_left _ hx, hp⟩
theorem told_rec (s : CS) (n : Int) (h : Rec s n) : Rec (toldS s) n := by
  rcases h with h | h
  · left
    have := tell_mono s.early.length s.want s.early
    show n < (tellE _ _ _).2.1
    omega
  · exact tell_key _ _ _ n h
theorem ack_rec (s : CS) (a n : Int) : Rec (ackS s a) n ↔ Rec s n := Iff.rfl
theorem take_mono (s : CS) (c q a : Int) (b : List Nat) (v : Value) : Mono s (takeS s c q a b v) := by
  unfold takeS
  split
  · exact Mono.refl s
  · split
    · exact ⟨Int.le_refl _, fun _ h => h, fun h => h, rfl, rfl, _, rfl⟩
    · have hq : (keepS (ackS s a) q v b).q = s.q.drop (ackN a s.q) := by unfold keepS; split <;> rfl
      have hn : (keepS (ackS s a) q v b).next = s.next := by unfold keepS; split <;> rfl
      have hc : (keepS (ackS s a) q v b).conn = s.conn := by unfold keepS; split <;> rfl
      have ho : (keepS (ackS s a) q v b).owes = true := by unfold keepS; split <;> rfl
      have hw : (keepS (ackS s a) q v b).want = s.want := keepS_want _ _ _ _
      have hm := tell_mono (keepS (ackS s a) q v b).early.length (keepS (ackS s a) q v b).want (keepS (ackS s a) q v b).early
      refine ⟨?_, fun n h => told_rec _ n (keep_rec _ _ _ _ n ((ack_rec s a n).2 h)), fun _ => ho, hn, hc, _, hq⟩
      show s.want ≤ (tellE _ _ _).2.1
      omega
theorem FOk.takes {f : Fm} (h : FOk f) {s : CS} (hc : s.conn = 1) : Go.Proofs.Ytmkpphkdaiienaa.takeE s f.conn f.seq f.ack f.body.length = 0 := by
  have h1 := h.seq.1
  have h2 := h.ack
  unfold Go.Proofs.Ytmkpphkdaiienaa.takeE
  rw [if_neg (by rw [h.conn, hc]; exact fun e => e rfl), if_neg]
  rintro (e | e | e)
  · omega
  · omega
  · exact e ⟨fun e1 => by rw [h.nil.1 e1]; rfl, fun e1 => h.nil.2 (List.eq_nil_of_length_eq_zero e1)⟩
theorem take_rec {f : Fm} (h : FOk f) {s : CS} (hc : s.conn = 1) (h0 : f.seq ≠ 0) (hw : f.seq - s.want < 4) (v : Value) : Rec (takeS s f.conn f.seq f.ack f.body v) f.seq ∧ (takeS s f.conn f.seq f.ack f.body v).owes = true := by
  have he := h.takes hc
  unfold takeS
  rw [if_neg (by rw [he]; decide), if_neg h0]
  refine ⟨told_rec _ _ ?_, ?_⟩
  · unfold keepS
    split
    · rename_i hk
      rcases hk with hk | hk | hk
      · exact .inl hk
      · have : (ackS s f.ack).want = s.want := rfl
        omega
      · exact .inr hk
    · right
      show (lookE f.seq ((ackS s f.ack).early ++ [⟨f.seq, v, f.body⟩])).isSome = true
      unfold lookE
      rw [List.find?_isSome]
      refine Exists.intro (⟨f.seq, v, f.body⟩ : Er) ?_
      refine And.intro (List.mem_append_right _ (List.mem_singleton.2 rfl)) ?_
      simp
  · show (keepS (ackS s f.ack) f.seq v f.body).owes = true
    unfold keepS
    split <;> rfl
theorem take_q {f : Fm} (h : FOk f) {s : CS} (hc : s.conn = 1) (v : Value) : (takeS s f.conn f.seq f.ack f.body v).q = s.q.drop (ackN f.ack s.q) := by
  have he := h.takes hc
  unfold takeS
  rw [if_neg (by rw [he]; decide)]
  split
  · rfl
  · show (keepS (ackS s f.ack) f.seq v f.body).q = _
    unfold keepS
    split <;> rfl
theorem ackN_ge (a : Int) : ∀ (q : List Par) (m : Nat), m ≤ q.length → (∀ p ∈ q.take m, p.sent = true ∧ p.seq ≤ a) → m ≤ ackN a q
  | q, 0, _, _ => Nat.zero_le _
  | [], m + 1, h, _ => by simp at h
  | p :: r, m + 1, h, hp => by
    have h0 := hp p (by simp)
    have ih := ackN_ge a r m (by simpa using h) (fun x hx => hp x (by rw [List.take_succ_cons]; exact List.mem_cons_of_mem _ hx))
    unfold ackN
    rw [if_pos h0]
    omega
theorem ackN_last (a : Int) : ∀ (q : List Par), ackN a q = 0 ∨ ∃ p, q[ackN a q - 1]? = some p ∧ p.seq ≤ a
  | [] => .inl rfl
  | p :: r => by
    unfold ackN
    split
    · rename_i h
      right
      rcases ackN_last a r with e | ⟨x, hx, hs⟩
      · rw [e]
        exact ⟨p, rfl, h.2⟩
      · by_cases e : ackN a r = 0
        · rw [e]
          exact ⟨p, rfl, h.2⟩
        · refine ⟨x, ?_, hs⟩
          rw [show ackN a r + 1 - 1 = (ackN a r - 1) + 1 by omega, List.getElem?_cons_succ]
          exact hx
    · exact .inl rfl
def Took : CS → List Fm → CS → Prop
  | s, [], s' => s' = s
  | s, f :: r, s' => ∃ v, Took (takeS s f.conn f.seq f.ack f.body v) r s'
theorem took_mono : ∀ {l : List Fm} {s s' : CS}, Took s l s' → Mono s s'
  | [], s, s', h => by obtain rfl : s' = s := h; exact Mono.refl _
  | f :: r, s, s', ⟨v, h⟩ => (take_mono s f.conn f.seq f.ack f.body v).trans (took_mono h)
theorem took_rec : ∀ {l : List Fm} {s s' : CS}, Took s l s' → s.conn = 1 → ∀ {f : Fm}, f ∈ l → FOk f → f.seq ≠ 0 → f.seq - s.want < 4 → Rec s' f.seq ∧ s'.owes = true
  | [], s, s', _, _, f, hf, _, _, _ => by cases hf
  | g :: r, s, s', ⟨v, h⟩, hc, f, hf, ho, h0, hw => by
    have hm := take_mono s g.conn g.seq g.ack g.body v
    rcases List.mem_cons.1 hf with e | hf
    · subst e
      have h1 := take_rec ho hc h0 hw v
      have h2 := took_mono h
      exact ⟨h2.rec_ _ h1.1, h2.owes h1.2⟩
    · exact took_rec h (hm.conn.trans hc) hf ho h0 (by have := hm.want; omega)
theorem took_ack : ∀ {l : List Fm} {s s' : CS}, Took s l s' → s.conn = 1 → (∀ f ∈ l, FOk f) → ∀ {f : Fm}, f ∈ l → ∀ {m : Nat}, m ≤ s.q.length → (∀ p ∈ s.q.take m, p.sent = true ∧ p.seq ≤ f.ack) → s'.q.length + m ≤ s.q.length
  | [], s, s', _, _, _, f, hf, _, _, _ => by cases hf
  | g :: r, s, s', ⟨v, h⟩, hc, hok, f, hf, m, hm, hp => by
    have hM := take_mono s g.conn g.seq g.ack g.body v
    have hq := take_q (hok g (by simp)) hc v
    have hT := took_mono h
    obtain ⟨d', hd'⟩ := hT.q
    rcases List.mem_cons.1 hf with e | hf
    · subst e
      have := ackN_ge f.ack s.q m hm hp
      rw [hd', hq, List.length_drop, List.length_drop]
      omega
    · by_cases hd : ackN g.ack s.q ≥ m
      · rw [hd', hq, List.length_drop, List.length_drop]
        omega
      · have hle := ackN_le g.ack s.q
        have := took_ack h (hM.conn.trans hc) (fun x hx => hok x (List.mem_cons_of_mem _ hx)) hf (m := m - ackN g.ack s.q) (by rw [hq, List.length_drop]; omega) (fun p hp' => by
          rw [hq] at hp'
          have e : (s.q.drop (ackN g.ack s.q)).take (m - ackN g.ack s.q) = (s.q.take m).drop (ackN g.ack s.q) := by rw [List.drop_take]
          rw [e] at hp'
          exact hp p (List.mem_of_mem_drop hp'))
        rw [hq, List.length_drop] at this
        omega
theorem Sq.drop {s s' : CS} (h : Sq s) (hn : s'.next = s.next) {d : Nat} (hq : s'.q = s.q.drop d) : Sq s' := by
  intro i p hp
  rw [hq, List.getElem?_drop] at hp
  have h1 := h _ p hp
  have h2 := (List.getElem?_eq_some_iff.1 hp).1
  unfold hd at *
  rw [hn, hq, List.length_drop]
  omega
theorem took_low : ∀ {l : List Fm} {s s' : CS} {A : Int}, Took s l s' → s.conn = 1 → (∀ f ∈ l, FOk f) → (∀ f ∈ l, f.ack ≤ A) → Sq s → hd s ≤ A + 1 → hd s' ≤ A + 1
  | [], s, s', A, h, _, _, _, _, hh => by obtain rfl : s' = s := h; exact hh
  | g :: r, s, s', A, ⟨v, h⟩, hc, hok, ha, hs, hh => by
    have hM := take_mono s g.conn g.seq g.ack g.body v
    have hq := take_q (hok g (by simp)) hc v
    refine took_low h (hM.conn.trans hc) (fun x hx => hok x (List.mem_cons_of_mem _ hx)) (fun x hx => ha x (List.mem_cons_of_mem _ hx)) (hs.drop hM.next hq) ?_
    have hle := ackN_le g.ack s.q
    have hga := ha g (by simp)
    unfold hd at *
    rw [hM.next, hq, List.length_drop]
    rcases ackN_last g.ack s.q with e | ⟨p, hp, hps⟩
    · rw [e]; simpa using hh
    · by_cases e : ackN g.ack s.q = 0
      · rw [e]; simpa using hh
      · have h1 := hs _ p hp
        unfold hd at h1
        omega
theorem Mono.hd {s s' : CS} (h : Mono s s') : hd s ≤ hd s' := by
  obtain ⟨d, e⟩ := h.q
  unfold Go.Proofs.Ytmkpphkdaiienaa.hd
  rw [h.next, e, List.length_drop]
  omega
/-- one round of a, which sends to b -/
structure Rd (a b a' b' : CS) (Fa Fb La Lb : List Fm) : Prop where
  la : La.map Fm.key = outs (tickS a)
  lb : Lb.map Fm.key = outs (tickS b)
  fa : ∀ f ∈ Fa ++ La, FOk f
  fb : ∀ f ∈ Fb ++ Lb, FOk f
  ta : Took (outS (tickS a)) (Fb ++ Lb) a'
  tb : Took (outS (tickS b)) (Fa ++ La) b'
structure Bd (a b : CS) : Prop where
  ia : ∃ N, Inv N 1 a
  ib : ∃ N, Inv N 1 b
  hd : hd a ≤ b.want
theorem Inv.sq {N : Nat} {c : Int} {s : CS} (h : Inv N c s) : Sq s := fun i p hp => by have := h.seq i p hp; unfold Go.Proofs.Ytmkpphkdaiienaa.hd; omega
theorem tq_len (s : CS) : (outS (tickS s)).q.length = s.q.length := by show (mapN freshP _ (mapN agePar _ s.q)).length = _; rw [mapN_len, mapN_len]
theorem tq_hd (s : CS) : hd (outS (tickS s)) = hd s := by unfold hd; rw [tq_len]; rfl
theorem Rd.rec_ {a b a' b' : CS} {Fa Fb La Lb : List Fm} (h : Rd a b a' b' Fa Fb La Lb) {n : Int} (hr : Rec b n) : Rec b' n := (took_mono h.tb).rec_ n hr
theorem Rd.head {a b a' b' : CS} {Fa Fb La Lb : List Fm} (h : Rd a b a' b' Fa Fb La Lb) : hd a ≤ hd a' ∧ a'.next = a.next ∧ b.want ≤ b'.want := by
  have h1 := (took_mono h.ta).hd
  rw [tq_hd] at h1
  exact ⟨h1, (took_mono h.ta).next, (took_mono h.tb).want⟩
theorem mapN_get {f : Par → Par} {k i : Nat} {q : List Par} {p : Par} (h : q[i]? = some p) (hi : i < k) : (mapN f k q)[i]? = some (f p) := by
  have hl := (List.getElem?_eq_some_iff.1 h).1
  unfold mapN
  rw [List.getElem?_append_left (by simp; omega), List.getElem?_map, List.getElem?_take_of_lt hi, h]
  rfl
theorem tq_get {s : CS} {i : Nat} {p : Par} (h : s.q[i]? = some p) (hi : i < 4) : (outS (tickS s)).q[i]? = some (freshP (agePar p)) := by
  have hl := (List.getElem?_eq_some_iff.1 h).1
  have h1 : (tickS s).q[i]? = some (agePar p) := mapN_get h (by omega)
  have h2 : (tickS s).q.length = s.q.length := mapN_len _ _ _
  exact mapN_get h1 (by rw [h2]; omega)
theorem fresh_sent (p : Par) : (freshP p).sent = true := by
  unfold freshP
  split
  · rfl
  · rename_i h
    unfold duE at h
    simp at h
    exact h.1
theorem out_frame {a : CS} {i : Nat} {p : Par} {La : List Fm} (hl : La.map Fm.key = outs (tickS a)) (h : a.q[i]? = some p) (hi : i < 4) (hd : duE (agePar p) = true) : ∃ f ∈ La, f.seq = p.seq ∧ f.body = p.body := by
  have hlt := (List.getElem?_eq_some_iff.1 h).1
  have h1 : (tickS a).q[i]? = some (agePar p) := mapN_get h (by omega)
  have h2 : (tickS a).q.length = a.q.length := mapN_len _ _ _
  have hm : freshP (agePar p) ∈ lvOf (tickS a) := by
    unfold lvOf outL
    refine List.mem_map_of_mem (List.mem_filter.2 ⟨?_, hd⟩)
    refine List.mem_of_getElem? (i := i) ?_
    rw [List.getElem?_take_of_lt (by rw [h2]; omega)]
    exact h1
  have hk : outK (tickS a) (freshP (agePar p)) ∈ outs (tickS a) := by
    unfold outs
    rw [if_neg (by have := List.length_pos_of_mem hm; omega)]
    exact List.mem_map_of_mem hm
  rw [← hl] at hk
  obtain ⟨f, hf, e⟩ := List.mem_map.1 hk
  unfold Fm.key outK at e
  simp only [Prod.mk.injEq] at e
  refine ⟨f, hf, ?_, ?_⟩
  · rw [e.2.1, freshP_seq, agePar_seq]
  · rw [e.2.2.2, freshP_b]
    unfold agePar
    split <;> rfl
/-- a parcel within the window that is due within k rounds -/
def Wt (s : CS) (n : Int) (k : Nat) : Prop := ∃ (i : Nat) (p : Par), s.q[i]? = some p ∧ i < 4 ∧ p.seq = n ∧ (p.sent = true → (3 : Int) ≤ p.ticks + (k : Int))
theorem Rd.wt {a b a' b' : CS} {Fa Fb La Lb : List Fm} (h : Rd a b a' b' Fa Fb La Lb) (hb : Bd a b) (hb' : Bd a' b') {n : Int} {k : Nat} (hw : Wt a n (k + 1)) : (Rec b' n ∧ b'.owes = true) ∨ n < hd a' ∨ (Wt a' n k ∧ 1 ≤ k) := by
  obtain ⟨i, p, hp, hi, rfl, ht⟩ := hw
  obtain ⟨Na, ia⟩ := hb.ia
  obtain ⟨Nb, ib⟩ := hb.ib
  have hsq := ia.sq i p hp
  have hbody := ia.body p (List.mem_of_getElem? hp)
  have hh := hb.hd
  by_cases hdue : duE (agePar p) = true
  · left
    obtain ⟨f, hf, e1, e2⟩ := out_frame h.la hp hi hdue
    have hok := h.fa f (List.mem_append_right _ hf)
    have h0 : f.seq ≠ 0 := fun e => hbody.1 (by rw [← e2]; exact hok.nil.1 e)
    have := took_rec h.tb (show (outS (tickS b)).conn = 1 from ib.conn) (List.mem_append_right _ hf) hok h0 (by show f.seq - b.want < 4; rw [e1]; omega)
    rw [e1] at this
    exact this
  · right
    have hs : p.sent = true ∧ p.ticks + 1 < 3 := by
      unfold duE agePar at hdue
      by_cases e : p.sent = true
      · rw [if_pos e] at hdue
        simp [e] at hdue
        exact ⟨e, hdue⟩
      · rw [if_neg e] at hdue
        simp at hdue
        exact absurd hdue.1 e
    have hfr : freshP (agePar p) = ⟨p.seq, p.v, p.body, p.sent, p.ticks + 1⟩ := by
      unfold freshP
      rw [if_neg hdue]
      unfold agePar
      rw [if_pos hs.1]
    have hg := tq_get hp hi
    rw [hfr] at hg
    obtain ⟨d, hd'⟩ := (took_mono h.ta).q
    have hn := h.head.2.1
    have hlt := (List.getElem?_eq_some_iff.1 hp).1
    by_cases hdi : d ≤ i
    · right
      refine ⟨⟨i - d, ⟨p.seq, p.v, p.body, p.sent, p.ticks + 1⟩, by rw [hd', List.getElem?_drop, show d + (i - d) = i by omega]; exact hg, by omega, rfl, fun _ => by have := ht hs.1; show (3 : Int) ≤ p.ticks + 1 + (k : Int); omega⟩, ?_⟩
      have := ht hs.1
      omega
    · left
      unfold hd at *
      rw [hn, hd', List.length_drop, tq_len]
      omega
theorem Rd.ack {a b a' b' : CS} {Fa Fb La Lb : List Fm} (h : Rd a b a' b' Fa Fb La Lb) (hb : Bd a b) {H : Int} (ho : b.owes = true) (h1 : H ≤ b.want) (h2 : H ≤ a.next) (h3 : H ≤ hd a + 4) : H ≤ hd a' := by
  obtain ⟨Na, ia⟩ := hb.ia
  by_cases hge : H ≤ hd a
  · have := h.head.1; omega
  -- b's frames tell what it has
  obtain ⟨f, hf, hfa⟩ : ∃ f ∈ Lb, f.ack = b.want - 1 := by
    have hne : outs (tickS b) ≠ [] := by
      unfold outs
      split
      · rw [if_pos (show (tickS b).owes = true from ho)]; simp
      · rename_i hl
        intro e
        have := congrArg List.length e
        simp at this
        rw [this] at hl
        exact hl rfl
    rw [← h.lb] at hne
    cases hL : Lb with
    | nil => rw [hL] at hne; exact absurd rfl hne
    | cons g r =>
      have hk : g.key ∈ outs (tickS b) := by rw [← h.lb, hL]; exact List.mem_map_of_mem (by simp)
      obtain ⟨Nb, ib⟩ := hb.ib
      have := (outs_mem ib.tickI hk).2.1
      exact ⟨g, by simp, this⟩
  obtain ⟨m, hm⟩ : ∃ m : Nat, (m : Int) = H - hd a := ⟨(H - hd a).toNat, by omega⟩
  have hml : m ≤ (outS (tickS a)).q.length := by rw [tq_len]; unfold hd at hm; omega
  have hp : ∀ p ∈ (outS (tickS a)).q.take m, p.sent = true ∧ p.seq ≤ f.ack := fun p hp => by
    obtain ⟨j, hj⟩ := List.getElem?_of_mem hp
    rw [List.getElem?_take] at hj
    split at hj
    · rename_i hjm
      have hjl : j < a.q.length := by rw [← tq_len]; exact (List.getElem?_eq_some_iff.1 hj).1
      obtain ⟨p0, hp0⟩ : ∃ p0, a.q[j]? = some p0 := ⟨_, List.getElem?_eq_getElem hjl⟩
      have hg := tq_get hp0 (by omega)
      rw [hj] at hg
      injection hg with hg
      subst hg
      refine ⟨fresh_sent _, ?_⟩
      rw [freshP_seq, agePar_seq, ia.sq j p0 hp0, hfa]
      omega
    · cases hj
  have := took_ack h.ta (show (outS (tickS a)).conn = 1 from ia.conn) h.fb (List.mem_append_right _ hf) hml hp
  have hn := h.head.2.1
  rw [tq_len] at this
  unfold hd at *
  rw [hn]
  omega
end Go.Proofs.Ytmkpphkdaiienaa
