/- What two ends have told: no model in it. -/
import Derived.Test.YtmkpphkdaiienaaCMp
namespace Go.Proofs.Ytmkpphkdaiienaa
set_option linter.unusedVariables false
set_option linter.unusedSimpArgs false
open Go.ChangeShapes Go.WideShapes Go.ChangeAt Go.RowKit Go.Joins Go.Deep

def At (P : PS) (i : Nat) (n : Int) (b : List Nat) : Prop := ∃ k : Nat, n = (k : Int) + 1 ∧ ((P.X i).map Prod.snd)[k]? = some b
structure Dir (P : PS) (i j : Nat) : Prop where
  nx : (P.s i).next = ((P.X i).length : Int) + 1
  q : ∀ p ∈ (P.s i).q, At P i p.seq p.body
  f : ∀ f ∈ P.F i, f.seq ≠ 0 → At P i f.seq f.body
  e : ∀ x ∈ (P.s j).early, At P i x.key x.body
  tl : ((P.X (2 + j)).length : Int) = (P.s j).want - 1
  t : ∀ (k : Nat) (x : VB), (P.X (2 + j))[k]? = some x → ((P.X i).map Prod.snd)[k]? = some x.2
structure Ordr (N : Nat) (P : PS) : Prop where
  good : Good N P
  d0 : Dir P 0 1
  d1 : Dir P 1 0
  g256 : ∀ i, i < 2 → ∀ x ∈ P.X i, ∀ y ∈ x.2, y < 256
theorem Good.more {N : Nat} {P : PS} (h : Good N P) : Good (N + 1) P :=
  ⟨fun i hi => (h.inv i hi).more, fun i hi => by have := h.len i hi; omega, fun i hi => by have := h.fl i hi; omega, h.fr, h.ok⟩
theorem Ordr.more {N : Nat} {P : PS} (h : Ordr N P) : Ordr (N + 1) P := ⟨h.good.more, h.d0, h.d1, h.g256⟩
/-- the same but for s, F, X -/
theorem Dir.congr {P P' : PS} {i j : Nat} (h : Dir P i j) (hX : P'.X i = P.X i) (hX2 : P'.X (2 + j) = P.X (2 + j)) (hn : (P'.s i).next = (P.s i).next) (hq : ∀ p ∈ (P'.s i).q, ∃ p' ∈ (P.s i).q, p.seq = p'.seq ∧ p.body = p'.body) (hF : ∀ f ∈ P'.F i, f.seq ≠ 0 → At P i f.seq f.body) (he : (P'.s j).early = (P.s j).early) (hw : (P'.s j).want = (P.s j).want) : Dir P' i j := by
  have ha : ∀ n b, At P i n b → At P' i n b := fun n b h => by unfold At; rw [hX]; exact h
  refine ⟨by rw [hn, hX, h.nx], fun p hp => ?_, fun f hf h0 => ha _ _ (hF f hf h0), fun x hx => ha _ _ (h.e x (by rw [← he]; exact hx)), by rw [hX2, hw, h.tl], fun k x hx => by rw [hX]; rw [hX2] at hx; exact h.t k x hx⟩
  obtain ⟨p', h1, h2, h3⟩ := hq p hp
  rw [h2, h3]
  exact ha _ _ (h.q p' h1)
theorem upd_at {α : Type} {f : Nat → α} {i j : Nat} {x : α} (p : α → Prop) (h1 : j = i → p x) (h2 : j ≠ i → p (f j)) : p (upd f i x j) := by
  unfold upd
  split
  · exact h1 (by assumption)
  · exact h2 (by assumption)
/-- one end's sender changes, its numbers and bodies stay -/
theorem Ordr.own {N : Nat} {P : PS} (h : Ordr N P) {i : Nat} (hi : i < 2) (s' : CS) (vq : Value) (W : Nat → Value) (F : Nat → List Fm) (inv : Inv (N + 1) 1 s') (hn : s'.next = (P.s i).next) (hq : ∀ p ∈ s'.q, ∃ p' ∈ (P.s i).q, p.seq = p'.seq ∧ p.body = p'.body) (he : s'.early = (P.s i).early) (hw : s'.want = (P.s i).want)
    (hF : ∀ j, j < 2 → ∀ f ∈ F j, FOk f ∧ (f.seq ≠ 0 → At P j f.seq f.body)) (hl : ∀ j, j < 2 → (F j).length ≤ (P.F j).length + 4) : Ordr (N + 1) { P with vq := upd P.vq i vq, s := upd P.s i s', W := W, F := F } := by
  have hs : ∀ j, (upd P.s i s' j).next = (P.s j).next ∧ (∀ p ∈ (upd P.s i s' j).q, ∃ p' ∈ (P.s j).q, p.seq = p'.seq ∧ p.body = p'.body) ∧ (upd P.s i s' j).early = (P.s j).early ∧ (upd P.s i s' j).want = (P.s j).want := fun j => by
    by_cases hj : j = i
    · subst hj; rw [upd_same]; exact ⟨hn, hq, he, hw⟩
    · rw [upd_other _ _ hj]; exact ⟨rfl, fun p hp => ⟨p, hp, rfl, rfl⟩, rfl, rfl⟩
  refine ⟨⟨fun j hj => ?_, fun j hj => by have := h.good.len j hj; show (P.X j).length ≤ _; omega, fun j hj => by have := h.good.fl j hj; have := hl j hj; show (F j).length ≤ _; omega, fun j hj f hf => (hF j hj f hf).1, h.good.ok⟩, ?_, ?_, h.g256⟩
  · show Inv (N + 1) 1 (upd P.s i s' j)
    by_cases hji : j = i
    · subst hji; rw [upd_same]; exact inv
    · rw [upd_other _ _ hji]; exact (h.good.inv j hj).more
  · exact h.d0.congr rfl rfl (hs 0).1 (hs 0).2.1 (fun f hf => (hF 0 (by decide) f hf).2) (hs 1).2.2.1 (hs 1).2.2.2
  · exact h.d1.congr rfl rfl (hs 1).1 (hs 1).2.1 (fun f hf => (hF 1 (by decide) f hf).2) (hs 0).2.2.1 (hs 0).2.2.2
theorem Ordr.dir {N : Nat} {P : PS} (h : Ordr N P) {i : Nat} (hi : i < 2) : Dir P i (1 - i) := by
  rcases two_cases hi with rfl | rfl
  · exact h.d0
  · exact h.d1
theorem Ordr.fold {N : Nat} {P : PS} (h : Ordr N P) {i : Nat} (hi : i < 2) : ∀ f ∈ P.F i, FOk f ∧ (f.seq ≠ 0 → At P i f.seq f.body) := fun f hf => ⟨h.good.fr i hi f hf, (h.dir hi).f f hf⟩
theorem mapN_same {f : Par → Par} (hf : ∀ p, (f p).seq = p.seq ∧ (f p).body = p.body) (k : Nat) (q : List Par) : ∀ p ∈ mapN f k q, ∃ p' ∈ q, p.seq = p'.seq ∧ p.body = p'.body := fun p hp => by
  obtain ⟨p', h1, rfl | rfl⟩ := mapN_mem hp
  · exact ⟨_, h1, rfl, rfl⟩
  · exact ⟨p', h1, (hf p').1, (hf p').2⟩
theorem outs_mem {N : Nat} {s : CS} (h : Inv N 1 s) {k : Key} (hk : k ∈ outs s) : k.1 = 1 ∧ k.2.2.1 = s.want - 1 ∧ ((k.2.1 = 0 ∧ k.2.2.2 = []) ∨ ∃ p ∈ s.q, k.2.1 = p.seq ∧ k.2.2.2 = p.body) := by
  unfold outs at hk
  split at hk
  · split at hk
    · obtain rfl := List.mem_singleton.1 hk
      exact ⟨h.conn, rfl, .inl ⟨rfl, rfl⟩⟩
    · cases hk
  · obtain ⟨p, hp, rfl⟩ := List.mem_map.1 hk
    obtain ⟨p', h1, _, h3, _, _, h6⟩ := outL_mem hp
    exact ⟨h.conn, rfl, .inr ⟨p', h1, h6, h3⟩⟩
theorem Ordr.fnew {N : Nat} {P : PS} (h : Ordr N P) {i : Nat} (hi : i < 2) {L : List Fm} (hL : L.map Fm.key = outs (P.s i)) : ∀ f ∈ L, FOk f ∧ (f.seq ≠ 0 → At P i f.seq f.body) := fun f hf => by
  have hk : f.key ∈ outs (P.s i) := by rw [← hL]; exact List.mem_map_of_mem hf
  have iv := h.good.inv i hi
  obtain ⟨h1, h2, h3⟩ := outs_mem iv hk
  have w0 := iv.w0
  rcases h3 with ⟨h3, h4⟩ | ⟨p, hp, h3, h4⟩
  · have e1 : f.seq = 0 := h3
    have e2 : f.body = [] := h4
    exact ⟨⟨h1, by omega, by have : f.ack = (P.s i).want - 1 := h2; omega, by rw [e1, e2]; simp, by rw [e2]; simp⟩, fun h0 => absurd e1 h0⟩
  · have e1 : f.seq = p.seq := h3
    have e2 : f.body = p.body := h4
    have ha := (h.dir hi).q p hp
    obtain ⟨k, hk1, hk2⟩ := id ha
    have hb := iv.body p hp
    have hkl : k < (P.X i).length := by have := (List.getElem?_eq_some_iff.1 hk2).1; simpa using this
    have hnx := (h.dir hi).nx
    have hn1 := iv.n1
    exact ⟨⟨h1, by rw [e1, hk1]; omega, by have : f.ack = (P.s i).want - 1 := h2; omega, by rw [e1, e2]; exact ⟨fun h0 => by omega, fun h0 => absurd h0 hb.1⟩, by rw [e2]; exact hb.2⟩, fun _ => by rw [e1, e2]; exact ha⟩
theorem tell_seq : ∀ (f : Nat) (a : Int) (E : List Er) (j : Nat) (x : Er), (tellE f a E).1[j]? = some x → x.key = a + (j : Int) ∧ x ∈ E
  | 0, a, E, j, x, h => by simp [tellE] at h
  | f + 1, a, E, j, x, h => by
    unfold tellE at h
    split at h
    · simp at h
    · rename_i y hy
      cases j with
      | zero =>
        obtain rfl : y = x := by simpa using h
        have := lookE_mem hy
        exact ⟨by rw [this.2]; simp, this.1⟩
      | succ j =>
        have := tell_seq f (a + 1) _ j x (by simpa using h)
        exact ⟨by rw [this.1]; omega, List.mem_of_mem_eraseP this.2⟩
theorem tell_sum : ∀ (f : Nat) (a : Int) (E : List Er), (tellE f a E).2.1 = a + ((tellE f a E).1.length : Int)
  | 0, a, E => by simp [tellE]
  | f + 1, a, E => by
    unfold tellE
    split
    · simp
    · have := tell_sum f (a + 1) (E.eraseP (fun x => decide (x.key = a)))
      simp only [List.length_cons]
      omega
/-- a frame of side i's comes at the other -/
theorem Ordr.came {N : Nat} {P : PS} (h : Ordr N P) {i : Nat} (hi : i < 2) {f : Fm} (hf : FOk f) (ha : f.seq ≠ 0 → At P i f.seq f.body) (v vq tv : Value) : Ordr (N + 1) (cameP P (1 - i) f.conn f.seq f.ack f.body v vq tv) := by
  have hj : 1 - i < 2 := by omega
  have iv := h.good.inv (1 - i) hj
  have he := hf.takeE iv
  have hinv := iv.take f.conn f.seq f.ack f.body v
  have D := h.dir hi
  have D' := h.dir hj
  have hji : 1 - (1 - i) = i := by omega
  rw [hji] at D'
  have hne : ¬ takeE (P.s (1 - i)) f.conn f.seq f.ack f.body.length ≠ 0 := fun e => e he
  -- what becomes of the end
  obtain ⟨s', hs'⟩ : ∃ z, takeS (P.s (1 - i)) f.conn f.seq f.ack f.body v = z := ⟨_, rfl⟩
  obtain ⟨o, ho⟩ : ∃ z, takeO (P.s (1 - i)) f.conn f.seq f.ack f.body v = z := ⟨_, rfl⟩
  have facts : s'.next = (P.s (1 - i)).next ∧ (∀ p ∈ s'.q, p ∈ (P.s (1 - i)).q) ∧ (∀ x ∈ s'.early, At P i x.key x.body) ∧ s'.want = (P.s (1 - i)).want + (o.length : Int) ∧ (∀ (k : Nat) (x : Er), o[k]? = some x → At P i ((P.s (1 - i)).want + (k : Int)) x.body) := by
    rw [← hs', ← ho]
    unfold takeS takeO
    rw [if_neg hne, if_neg hne]
    by_cases hq : f.seq = 0
    · rw [if_pos hq, if_pos hq]
      exact ⟨rfl, fun p hp => List.mem_of_mem_drop hp, D.e, by simp [ackS, CS.withQ], fun k x hx => by simp at hx⟩
    · rw [if_neg hq, if_neg hq]
      have hke : ∀ x ∈ (keepS (ackS (P.s (1 - i)) f.ack) f.seq v f.body).early, At P i x.key x.body := by
        unfold keepS
        split
        · exact D.e
        · intro x hx
          rcases List.mem_append.1 hx with hx | hx
          · exact D.e x hx
          · obtain rfl := List.mem_singleton.1 hx
            exact ha hq
      have hkw := keepS_want (ackS (P.s (1 - i)) f.ack) f.seq v f.body
      have hkn : (keepS (ackS (P.s (1 - i)) f.ack) f.seq v f.body).next = (P.s (1 - i)).next := by unfold keepS; split <;> rfl
      have hkq : (keepS (ackS (P.s (1 - i)) f.ack) f.seq v f.body).q = (P.s (1 - i)).q.drop (ackN f.ack (P.s (1 - i)).q) := by unfold keepS; split <;> rfl
      obtain ⟨K, hK⟩ : ∃ z, keepS (ackS (P.s (1 - i)) f.ack) f.seq v f.body = z := ⟨_, rfl⟩
      rw [hK] at hke hkw hkn hkq ⊢
      have hkw' : K.want = (P.s (1 - i)).want := hkw
      refine ⟨hkn, fun p hp => ?_, fun x hx => hke x (tell_sub _ _ _ x hx), ?_, fun k x hx => ?_⟩
      · have hp' : p ∈ K.q := hp
        rw [hkq] at hp'
        exact List.mem_of_mem_drop hp'
      · show (tellE _ _ _).2.1 = _
        rw [tell_sum, hkw']
      · obtain ⟨e1, e2⟩ := tell_seq _ _ _ k x hx
        rw [← hkw', ← e1]
        exact hke x e2
  obtain ⟨hn, hq, he', hw, hto⟩ := facts
  rw [hs'] at hinv
  unfold cameP
  rw [hs', ho]
  have hX : ∀ j, j < 2 → upd P.X (2 + (1 - i)) (P.X (2 + (1 - i)) ++ pairs o) j = P.X j := fun j hj => upd_other _ _ (by omega)
  have hXi : upd P.X (2 + (1 - i)) (P.X (2 + (1 - i)) ++ pairs o) (2 + i) = P.X (2 + i) := upd_other _ _ (by omega)
  have hXj : upd P.X (2 + (1 - i)) (P.X (2 + (1 - i)) ++ pairs o) (2 + (1 - i)) = P.X (2 + (1 - i)) ++ pairs o := upd_same _ _ _
  have hsi : upd P.s (1 - i) s' i = P.s i := upd_other _ _ (by omega)
  have hsj : upd P.s (1 - i) s' (1 - i) = s' := upd_same _ _ _
  have hlo : (pairs o).length = o.length := List.length_map _
  have DA : Dir { P with vq := upd P.vq (1 - i) vq, s := upd P.s (1 - i) s', V := upd P.V (2 + (1 - i)) tv, X := upd P.X (2 + (1 - i)) (P.X (2 + (1 - i)) ++ pairs o) } i (1 - i) := by
    have hAt : ∀ n b, At P i n b → At { P with vq := upd P.vq (1 - i) vq, s := upd P.s (1 - i) s', V := upd P.V (2 + (1 - i)) tv, X := upd P.X (2 + (1 - i)) (P.X (2 + (1 - i)) ++ pairs o) } i n b := fun n b h => by unfold At; show ∃ k : Nat, _ ∧ ((upd P.X _ _ i).map Prod.snd)[k]? = _; rw [hX i hi]; exact h
    refine ⟨?_, fun p hp => ?_, fun g hg h0 => hAt _ _ (D.f g hg h0), fun x hx => ?_, ?_, fun k x hx => ?_⟩
    · show (upd P.s (1 - i) s' i).next = ((upd P.X _ _ i).length : Int) + 1
      rw [hsi, hX i hi]; exact D.nx
    · have hp' : p ∈ (upd P.s (1 - i) s' i).q := hp
      rw [hsi] at hp'
      exact hAt _ _ (D.q p hp')
    · have hx' : x ∈ (upd P.s (1 - i) s' (1 - i)).early := hx
      rw [hsj] at hx'
      exact hAt _ _ (he' x hx')
    · show ((upd P.X _ _ (2 + (1 - i))).length : Int) = (upd P.s (1 - i) s' (1 - i)).want - 1
      rw [hXj, hsj, List.length_append, hlo, hw]
      have := D.tl
      omega
    · have hx' : (upd P.X (2 + (1 - i)) (P.X (2 + (1 - i)) ++ pairs o) (2 + (1 - i)))[k]? = some x := hx
      show ((upd P.X _ _ i).map Prod.snd)[k]? = some x.2
      rw [hX i hi]
      rw [hXj] at hx'
      by_cases hk : k < (P.X (2 + (1 - i))).length
      · rw [List.getElem?_append_left hk] at hx'
        exact D.t k x hx'
      · rw [List.getElem?_append_right (by omega)] at hx'
        unfold pairs at hx'
        rw [List.getElem?_map] at hx'
        obtain ⟨y, hy, rfl⟩ := Option.map_eq_some_iff.1 hx'
        obtain ⟨m, hm1, hm2⟩ := hto _ y hy
        have htl := D.tl
        have : m = k := by omega
        rw [this] at hm2
        exact hm2
  have DB : Dir { P with vq := upd P.vq (1 - i) vq, s := upd P.s (1 - i) s', V := upd P.V (2 + (1 - i)) tv, X := upd P.X (2 + (1 - i)) (P.X (2 + (1 - i)) ++ pairs o) } (1 - i) i := by
    refine D'.congr (hX (1 - i) hj) hXi (by show (upd P.s (1 - i) s' (1 - i)).next = _; rw [hsj]; exact hn) (fun p hp => ?_) D'.f (by show (upd P.s (1 - i) s' i).early = _; rw [hsi]) (by show (upd P.s (1 - i) s' i).want = _; rw [hsi])
    have hp' : p ∈ (upd P.s (1 - i) s' (1 - i)).q := hp
    rw [hsj] at hp'
    exact ⟨p, hq p hp', rfl, rfl⟩
  have w1 := hinv.w1
  refine ⟨⟨fun j hj2 => ?_, fun j hj2 => ?_, fun j hj2 => by have := h.good.fl j hj2; show (P.F j).length ≤ _; omega, h.good.fr, h.good.ok⟩, ?_, ?_, fun j hj2 x hx => ?_⟩
  · show Inv (N + 1) 1 (upd P.s (1 - i) s' j)
    by_cases hjj : j = 1 - i
    · subst hjj; rw [upd_same]; exact hinv
    · rw [upd_other _ _ hjj]; exact (h.good.inv j hj2).more
  · show (upd P.X (2 + (1 - i)) (P.X (2 + (1 - i)) ++ pairs o) j).length ≤ N + 1
    by_cases hjj : j = 2 + (1 - i)
    · subst hjj
      rw [upd_same, List.length_append, hlo]
      have := D.tl
      omega
    · rw [upd_other _ _ hjj]
      have := h.good.len j hj2
      omega
  · rcases two_cases hi with rfl | rfl
    · exact DA
    · exact DB
  · rcases two_cases hi with rfl | rfl
    · exact DB
    · exact DA
  · have hx' : x ∈ upd P.X (2 + (1 - i)) (P.X (2 + (1 - i)) ++ pairs o) j := hx
    rw [hX j hj2] at hx'
    exact h.g256 j hj2 x hx'
theorem Ordr.lost {N : Nat} {P : PS} (h : Ordr N P) {i : Nat} (hi : i < 2) (v : Value) (k : Nat) : Ordr N (P3 P i v ((P.F i).take k ++ (P.F i).drop (k + 1))) := by
  have hm : ∀ j, j < 2 → ∀ f ∈ upd P.F i ((P.F i).take k ++ (P.F i).drop (k + 1)) j, f ∈ P.F j := fun j hj f hf => by
    by_cases hji : j = i
    · subst hji
      rw [upd_same] at hf
      rcases List.mem_append.1 hf with hf | hf
      · exact List.mem_of_mem_take hf
      · exact List.mem_of_mem_drop hf
    · rw [upd_other _ _ hji] at hf
      exact hf
  refine ⟨⟨h.good.inv, h.good.len, fun j hj => ?_, fun j hj f hf => h.good.fr j hj f (hm j hj f hf), h.good.ok⟩, h.d0.congr rfl rfl rfl (fun p hp => ⟨p, hp, rfl, rfl⟩) (fun f hf => h.d0.f f (hm 0 (by decide) f hf)) rfl rfl, h.d1.congr rfl rfl rfl (fun p hp => ⟨p, hp, rfl, rfl⟩) (fun f hf => h.d1.f f (hm 1 (by decide) f hf)) rfl rfl, h.g256⟩
  show (upd P.F i ((P.F i).take k ++ (P.F i).drop (k + 1)) j).length ≤ 4 * N
  have := h.good.fl j hj
  by_cases hji : j = i
  · subst hji
    rw [upd_same, List.length_append, List.length_take, List.length_drop]
    omega
  · rw [upd_other _ _ hji]
    exact this
theorem At.grow {P P' : PS} {i : Nat} {x : List VB} (hX : P'.X i = P.X i ++ x) {n : Int} {b : List Nat} (h : At P i n b) : At P' i n b := by
  obtain ⟨k, h1, h2⟩ := h
  refine ⟨k, h1, ?_⟩
  rw [hX, List.map_append, List.getElem?_append_left (List.getElem?_eq_some_iff.1 h2).1]
  exact h2
theorem Ordr.send {N : Nat} {P : PS} (h : Ordr N P) {i : Nat} (hi : i < 2) (v vq vb tv : Value) (l : List Nat) (he : sendE (P.s i) l.length = 0) (hb : ∀ y ∈ l, y < 256) : Ordr (N + 1) (P2 (P1 P i (sendS (P.s i) v l) vq) i tv (P.X i ++ [(vb, l)])) := by
  have hj : 1 - i < 2 := by omega
  have D := h.dir hi
  have D' := h.dir hj
  rw [show 1 - (1 - i) = i by omega] at D'
  have iv := (h.good.inv i hi).send v l
  have hS : sendS (P.s i) v l = ⟨(P.s i).next + 1, (P.s i).q ++ [⟨(P.s i).next, v, l, false, 0⟩], (P.s i).want, (P.s i).early, (P.s i).owes, (P.s i).conn⟩ := by unfold sendS; rw [if_pos he]
  rw [hS] at iv ⊢
  obtain ⟨s', hs'⟩ : ∃ z, (⟨(P.s i).next + 1, (P.s i).q ++ [⟨(P.s i).next, v, l, false, 0⟩], (P.s i).want, (P.s i).early, (P.s i).owes, (P.s i).conn⟩ : CS) = z := ⟨_, rfl⟩
  have s1 : s'.next = (P.s i).next + 1 := by rw [← hs']
  have s2 : s'.q = (P.s i).q ++ [⟨(P.s i).next, v, l, false, 0⟩] := by rw [← hs']
  have s3 : s'.want = (P.s i).want := by rw [← hs']
  have s4 : s'.early = (P.s i).early := by rw [← hs']
  rw [hs'] at iv ⊢
  have hsi : upd P.s i s' i = s' := upd_same _ _ _
  have hsj : upd P.s i s' (1 - i) = P.s (1 - i) := upd_other _ _ (by omega)
  have hXi : upd P.X i (P.X i ++ [(vb, l)]) i = P.X i ++ [(vb, l)] := upd_same _ _ _
  have hXo : ∀ j, j ≠ i → upd P.X i (P.X i ++ [(vb, l)]) j = P.X j := fun j hj => upd_other _ _ hj
  obtain ⟨P', hP'⟩ : ∃ z, P2 (P1 P i s' vq) i tv (P.X i ++ [(vb, l)]) = z := ⟨_, rfl⟩
  have hPX : P'.X = upd P.X i (P.X i ++ [(vb, l)]) := by rw [← hP']; rfl
  have hPs : P'.s = upd P.s i s' := by rw [← hP']; rfl
  have hPF : P'.F = P.F := by rw [← hP']; rfl
  have hPo : P'.ok = P.ok := by rw [← hP']; rfl
  rw [hP']
  have hgr : P'.X i = P.X i ++ [(vb, l)] := by rw [hPX, hXi]
  have DA : Dir P' i (1 - i) := by
    refine ⟨by rw [hPs, hsi, s1, hgr, List.length_append, List.length_singleton]; have := D.nx; omega, fun p hp => ?_, fun f hf h0 => At.grow hgr (D.f f (by rw [← hPF]; exact hf) h0), fun x hx => At.grow hgr (D.e x (by rw [hPs, hsj] at hx; exact hx)), by rw [hPs, hsj, hPX, hXo _ (by omega)]; exact D.tl, fun k x hx => ?_⟩
    · rw [hPs, hsi, s2] at hp
      rcases List.mem_append.1 hp with hp | hp
      · exact At.grow hgr (D.q p hp)
      · obtain rfl := List.mem_singleton.1 hp
        exact ⟨(P.X i).length, D.nx, by rw [hgr, List.map_append, List.getElem?_append_right (by simp)]; simp⟩
    · rw [hPX, hXo _ (by omega)] at hx
      have h1 := D.t k x hx
      rw [hgr, List.map_append, List.getElem?_append_left (List.getElem?_eq_some_iff.1 h1).1]
      exact h1
  have DB : Dir P' (1 - i) i := D'.congr (by rw [hPX, hXo _ (by omega)]) (by rw [hPX, hXo _ (by omega)]) (by rw [hPs, hsj]) (fun p hp => ⟨p, by rw [hPs, hsj] at hp; exact hp, rfl, rfl⟩) (fun f hf => D'.f f (by rw [← hPF]; exact hf)) (by rw [hPs, hsi, s4]) (by rw [hPs, hsi, s3])
  refine ⟨⟨fun j hj2 => ?_, fun j hj2 => ?_, fun j hj2 => by rw [hPF]; have := h.good.fl j hj2; omega, fun j hj2 => by rw [hPF]; exact h.good.fr j hj2, by rw [hPo]; exact h.good.ok⟩, ?_, ?_, fun j hj2 x hx => ?_⟩
  · rw [hPs]
    by_cases hjj : j = i
    · subst hjj; rw [upd_same]; exact iv
    · rw [upd_other _ _ hjj]; exact (h.good.inv j hj2).more
  · rw [hPX]
    by_cases hjj : j = i
    · subst hjj
      rw [upd_same, List.length_append, List.length_singleton]
      have := h.good.len j hj2
      omega
    · rw [upd_other _ _ hjj]
      have := h.good.len j hj2
      omega
  · rcases two_cases hi with rfl | rfl
    · exact DA
    · exact DB
  · rcases two_cases hi with rfl | rfl
    · exact DB
    · exact DA
  · rw [hPX] at hx
    by_cases hjj : j = i
    · subst hjj
      rw [upd_same] at hx
      rcases List.mem_append.1 hx with hx | hx
      · exact h.g256 j hj2 x hx
      · obtain rfl := List.mem_singleton.1 hx
        exact hb
    · rw [upd_other _ _ hjj] at hx
      exact h.g256 j hj2 x hx
theorem Ordr.step {N : Nat} {P P' : PS} {b : List Nat} (h : Ordr N P) (hb : ∀ y ∈ b, y < 256) (hs : Step P b P') : Ordr (N + 1) P' := by
  rcases hs with rfl | ⟨i, hi, v, vq, l, rfl, he⟩ | ⟨i, hi, v, vq, vb, tv, l, rfl, he, rfl⟩ | ⟨i, hi, rfl⟩ | ⟨i, hi, v, L, rfl, hL⟩ | ⟨i, hi, v, k, hk, rfl⟩ | ⟨i, hi, f, hf, v, vq, tv, rfl⟩ | ⟨i, hi, w, k, f, hf, v, vq, tv, rfl⟩
  · exact h.more
  · have e : sendS (P.s i) v l = P.s i := by unfold sendS; rw [if_neg he]
    unfold P1
    rw [e]
    exact h.own hi (P.s i) vq P.W P.F (h.good.inv i hi).more rfl (fun p hp => ⟨p, hp, rfl, rfl⟩) rfl rfl (fun j hj => h.fold hj) (fun j hj => by omega)
  · exact h.send hi v vq vb tv l he hb
  · exact h.own hi (tickS (P.s i)) (P.vq i) P.W P.F (h.good.inv i hi).tickI rfl (mapN_same (fun p => ⟨agePar_seq p, by unfold agePar; split <;> rfl⟩) _ _) rfl rfl (fun j hj => h.fold hj) (fun j hj => by omega)
  · refine h.own hi (outS (P.s i)) (P.vq i) (upd P.W i v) (upd P.F i (P.F i ++ L)) (h.good.inv i hi).out.more rfl (mapN_same (fun p => ⟨freshP_seq p, freshP_b p⟩) _ _) rfl rfl (fun j hj f hf => ?_) (fun j hj => ?_)
    · by_cases hji : j = i
      · subst hji
        rw [upd_same] at hf
        rcases List.mem_append.1 hf with hf | hf
        · exact h.fold hj f hf
        · exact h.fnew hj hL f hf
      · rw [upd_other _ _ hji] at hf
        exact h.fold hj f hf
    · by_cases hji : j = i
      · subst hji
        rw [upd_same, List.length_append]
        have h1 := congrArg List.length hL
        rw [List.length_map] at h1
        have := outs_len4 (P.s j)
        omega
      · rw [upd_other _ _ hji]
        omega
  · exact (h.lost hi v k).more
  · exact h.came hi (h.good.fr i hi f hf) ((h.dir hi).f f hf) v vq tv
  · have hf' := List.mem_of_getElem? hf
    exact (h.lost hi w k).came hi (h.good.fr i hi f hf') (fun h0 => (h.dir hi).f f hf' h0) v vq tv
end Go.Proofs.Ytmkpphkdaiienaa
