/- Two maps of early bodies with the same keys and bodies: no model in it. -/
import Derived.Test.YtmkpphkdaiienaaCTw3
namespace Go.Proofs.Ytmkpphkdaiienaa
set_option linter.unusedVariables false
set_option linter.unusedSimpArgs false
open Go.ChangeShapes Go.WideShapes Go.ChangeAt Go.RowKit Go.Joins Go.Deep

theorem key_uniq : ∀ {E : List Er}, (E.map Er.key).Nodup → ∀ {x y : Er}, x ∈ E → y ∈ E → x.key = y.key → x = y
  | [], _, x, y, hx, _, _ => by cases hx
  | a :: r, h, x, y, hx, hy, e => by
    rw [List.map_cons, List.nodup_cons] at h
    rcases List.mem_cons.1 hx with ex | hx'
    · rcases List.mem_cons.1 hy with ey | hy'
      · rw [ex, ey]
      · exact absurd (List.mem_map.2 ⟨y, hy', by rw [← e, ex]⟩) h.1
    · rcases List.mem_cons.1 hy with ey | hy'
      · exact absurd (List.mem_map.2 ⟨x, hx', by rw [e, ey]⟩) h.1
      · exact key_uniq h.2 hx' hy' e
theorem look_some {n : Int} {E : List Er} {x : Er} (hn : (E.map Er.key).Nodup) (hx : x ∈ E) (hk : x.key = n) : lookE n E = some x := by
  cases hz : lookE n E with
  | none => exact absurd (List.mem_map.2 ⟨x, hx, hk⟩) (look_none hz)
  | some z =>
    have := lookE_mem hz
    rw [key_uniq hn this.1 hx (this.2.trans hk.symm)]
theorem SimE.of {E F : List Er} (hl : E.length = F.length) (ne : (E.map Er.key).Nodup) (nf : (F.map Er.key).Nodup) (h1 : ∀ x ∈ E, ∃ y ∈ F, y.key = x.key ∧ y.body = x.body) (h2 : ∀ y ∈ F, ∃ x ∈ E, x.key = y.key) : SimE E F := by
  refine ⟨hl, ne, nf, fun n => ?_⟩
  cases hz : lookE n E with
  | none =>
    rw [look_not (E := F) (fun hm => ?_)]
    obtain ⟨y, hy, hk⟩ := List.mem_map.1 hm
    obtain ⟨x, hx, e⟩ := h2 y hy
    exact look_none hz (List.mem_map.2 ⟨x, hx, e.trans hk⟩)
  | some x =>
    have hx := lookE_mem hz
    obtain ⟨y, hy, e1, e2⟩ := h1 x hx.1
    rw [look_some nf hy (e1.trans hx.2)]
    simp only [Option.map_some, e2]
theorem sub_len : ∀ (A B : List Int), A.Nodup → (∀ a ∈ A, a ∈ B) → A.length ≤ B.length
  | [], B, _, _ => Nat.zero_le _
  | a :: r, B, hn, hs => by
    rw [List.nodup_cons] at hn
    have hm := hs a (by simp)
    have := sub_len r (B.erase a) hn.2 (fun x hx => (List.mem_erase_of_ne (fun (e : x = a) => hn.1 (by rw [← e]; exact hx))).2 (hs x (List.mem_cons_of_mem _ hx)))
    rw [List.length_erase_of_mem hm] at this
    have := List.length_pos_of_mem hm
    simp only [List.length_cons]
    omega
theorem keys_len {E F : List Er} (ne : (E.map Er.key).Nodup) (nf : (F.map Er.key).Nodup) (h1 : ∀ x ∈ E, ∃ y ∈ F, y.key = x.key) (h2 : ∀ y ∈ F, ∃ x ∈ E, x.key = y.key) : E.length = F.length := by
  have p := sub_len (E.map Er.key) (F.map Er.key) ne (fun a ha => by
    obtain ⟨x, hx, rfl⟩ := List.mem_map.1 ha
    obtain ⟨y, hy, e⟩ := h1 x hx
    exact List.mem_map.2 ⟨y, hy, e⟩)
  have q := sub_len (F.map Er.key) (E.map Er.key) nf (fun a ha => by
    obtain ⟨y, hy, rfl⟩ := List.mem_map.1 ha
    obtain ⟨x, hx, e⟩ := h2 y hy
    exact List.mem_map.2 ⟨x, hx, e⟩)
  simp only [List.length_map] at p q
  omega
/-- what a walk over a map's entries has laid into the new one -/
structure Vs (es : Array MapEntry) (E : List Er) (seen : Array Nat) (F : List Er) : Prop where
  nf : (F.map Er.key).Nodup
  all : ∀ e ∈ es.toList, seen.contains e.born = true → ∃ y ∈ F, e.key = .int .i64 y.key
  from_ : ∀ y ∈ F, ∃ x ∈ E, x.key = y.key ∧ x.body = y.body
  was : ∀ y ∈ F, ∃ e ∈ es.toList, seen.contains e.born = true ∧ e.key = .int .i64 y.key
theorem Vs.start (es : Array MapEntry) (E : List Er) : Vs es E #[] [] := ⟨by simp, fun e _ h => by simp at h, fun y hy => (by cases hy), fun y hy => (by cases hy)⟩
theorem uniq_map {β : Type} (f : MapEntry → β) : ∀ {l : List MapEntry}, (l.map f).Nodup → ∀ {x y : MapEntry}, x ∈ l → y ∈ l → f x = f y → x = y
  | [], _, x, y, hx, _, _ => by cases hx
  | a :: r, h, x, y, hx, hy, e => by
    rw [List.map_cons, List.nodup_cons] at h
    rcases List.mem_cons.1 hx with ex | hx'
    · rcases List.mem_cons.1 hy with ey | hy'
      · rw [ex, ey]
      · exact absurd (List.mem_map.2 ⟨y, hy', by rw [← e, ex]⟩) h.1
    · rcases List.mem_cons.1 hy with ey | hy'
      · exact absurd (List.mem_map.2 ⟨x, hx', by rw [e, ey]⟩) h.1
      · exact uniq_map f h.2 hx' hy' e
theorem Vs.next {es : Array MapEntry} {E F : List Er} {seen : Array Nat} (h : Vs es E seen F) (hk : (es.toList.map (·.key)).Nodup) (hbn : (es.toList.map (·.born)).Nodup) {e : MapEntry} (he : e ∈ es.toList) (hs : seen.contains e.born = false) {x : Er} (hx : x ∈ E) (hek : e.key = .int .i64 x.key) (v : Value) :
    lookE x.key F = none ∧ Vs es E (seen.push e.born) (F ++ [⟨x.key, v, x.body⟩]) := by
  have hn : x.key ∉ F.map Er.key := fun hm => by
    obtain ⟨y, hy, e1⟩ := List.mem_map.1 hm
    obtain ⟨e', he', h1, h2⟩ := h.was y hy
    have := uniq_map (·.key) hk he he' (by show e.key = e'.key; rw [hek, h2, e1])
    rw [← this, hs] at h1
    cases h1
  refine ⟨look_not hn, ?_, fun e' he' h1 => ?_, fun y hy => ?_, fun y hy => ?_⟩
  · rw [List.map_append, List.nodup_append]
    refine ⟨h.nf, by simp, fun a ha b' hb e1 => ?_⟩
    simp at hb
    subst hb
    exact hn (e1 ▸ ha)
  · by_cases hc : seen.contains e'.born = true
    · obtain ⟨y, hy, e1⟩ := h.all e' he' hc
      exact ⟨y, List.mem_append_left _ hy, e1⟩
    · by_cases hb : e' = e
      · exact ⟨_, List.mem_append_right _ (List.mem_singleton.2 rfl), by rw [hb, hek]⟩
      · refine absurd (uniq_map (·.born) hbn he' he ?_) hb
        simp at h1 hc
        rcases h1 with h1 | h1
        · exact absurd h1 hc
        · exact h1
  · rcases List.mem_append.1 hy with hy | hy
    · exact h.from_ y hy
    · obtain rfl := List.mem_singleton.1 hy
      exact ⟨x, hx, rfl, rfl⟩
  · rcases List.mem_append.1 hy with hy | hy
    · obtain ⟨e', he', h1, h2⟩ := h.was y hy
      exact ⟨e', he', by simp at h1 ⊢; exact .inl h1, h2⟩
    · obtain rfl := List.mem_singleton.1 hy
      exact ⟨e, he, by simp, hek⟩
theorem SimE.refl {E : List Er} (h : (E.map Er.key).Nodup) : SimE E E := ⟨rfl, h, h, fun _ => rfl⟩
theorem SimE.trans {E F G : List Er} (h : SimE E F) (k : SimE F G) : SimE E G := ⟨h.len.trans k.len, h.ne, k.nf, fun n => (h.look n).trans (k.look n)⟩
theorem SimE.symm {E F : List Er} (h : SimE E F) : SimE F E := ⟨h.len.symm, h.nf, h.ne, fun n => (h.look n).symm⟩
theorem Sim.trans {a b c : CS} (h : Sim a b) (k : Sim b c) : Sim a c := ⟨h.next.trans k.next, h.q.trans k.q, h.want.trans k.want, h.early.trans k.early, h.owes.trans k.owes, h.conn.trans k.conn⟩
theorem Sim.symm {a b : CS} (h : Sim a b) : Sim b a := ⟨h.next.symm, h.q.symm, h.want.symm, h.early.symm, h.owes.symm, h.conn.symm⟩
end Go.Proofs.Ytmkpphkdaiienaa
