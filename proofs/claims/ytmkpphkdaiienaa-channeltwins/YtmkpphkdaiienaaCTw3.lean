/- Two ends that are the same but for their blocks: no model in it. -/
import Derived.Test.YtmkpphkdaiienaaCInv
import Derived.Test.YtmkpphkdaiienaaCOu
namespace Go.Proofs.Ytmkpphkdaiienaa
set_option linter.unusedVariables false
set_option linter.unusedSimpArgs false
open Go.ChangeShapes Go.WideShapes Go.ChangeAt Go.RowKit Go.Joins Go.Deep

def sk (p : Par) : Int × List Nat × Bool × Int := (p.seq, p.body, p.sent, p.ticks)
structure SimE (E F : List Er) : Prop where
  len : E.length = F.length
  ne : (E.map Er.key).Nodup
  nf : (F.map Er.key).Nodup
  look : ∀ n, (lookE n E).map Er.body = (lookE n F).map Er.body
structure Sim (s t : CS) : Prop where
  next : s.next = t.next
  q : s.q.map sk = t.q.map sk
  want : s.want = t.want
  early : SimE s.early t.early
  owes : s.owes = t.owes
  conn : s.conn = t.conn
theorem look_not {n : Int} : ∀ {E : List Er}, n ∉ E.map Er.key → lookE n E = none
  | [], _ => rfl
  | x :: r, h => by
    simp only [List.map_cons, List.mem_cons, not_or] at h
    unfold lookE
    rw [List.find?_cons_of_neg (by simpa using fun e => h.1 e.symm)]
    exact look_not h.2
theorem look_none {n : Int} {E : List Er} (h : lookE n E = none) : n ∉ E.map Er.key := fun hm => by
  obtain ⟨x, hx, hk⟩ := List.mem_map.1 hm
  unfold lookE at h
  rw [List.find?_eq_none] at h
  exact h x hx (by simpa using hk)
theorem look_gone (a : Int) : ∀ {E : List Er}, (E.map Er.key).Nodup → lookE a (E.eraseP (fun x => decide (x.key = a))) = none
  | [], _ => rfl
  | x :: r, h => by
    rw [List.map_cons, List.nodup_cons] at h
    by_cases e : x.key = a
    · rw [List.eraseP_cons_of_pos (by simpa using e)]
      exact look_not (by rw [← e]; exact h.1)
    · rw [List.eraseP_cons_of_neg (by simpa using e)]
      unfold lookE
      rw [List.find?_cons_of_neg (by simpa using e)]
      exact look_gone a h.2
theorem nodup_erase (a : Int) {E : List Er} (h : (E.map Er.key).Nodup) : ((E.eraseP (fun x => decide (x.key = a))).map Er.key).Nodup :=
  List.Sublist.nodup (List.Sublist.map _ (List.eraseP_sublist)) h
theorem SimE.some {E F : List Er} (h : SimE E F) (a : Int) : (lookE a E).isSome = (lookE a F).isSome := by
  have := congrArg Option.isSome (h.look a)
  simpa using this
theorem SimE.erase {E F : List Er} (h : SimE E F) {a : Int} {x y : Er} (hx : lookE a E = Option.some x) (hy : lookE a F = Option.some y) : SimE (E.eraseP (fun x => decide (x.key = a))) (F.eraseP (fun x => decide (x.key = a))) := by
  have h1 := lookE_erase hx
  have h2 := lookE_erase hy
  refine ⟨by have := h.len; omega, nodup_erase a h.ne, nodup_erase a h.nf, fun n => ?_⟩
  by_cases e : n = a
  · rw [e, look_gone a h.ne, look_gone a h.nf]
  · rw [lookE_other e, lookE_other e]
    exact h.look n
theorem tell_sim : ∀ (f : Nat) (a : Int) {E F : List Er}, SimE E F → (tellE f a E).1.map Er.body = (tellE f a F).1.map Er.body ∧ (tellE f a E).2.1 = (tellE f a F).2.1 ∧ SimE (tellE f a E).2.2 (tellE f a F).2.2
  | 0, a, E, F, h => ⟨rfl, rfl, h⟩
  | f + 1, a, E, F, h => by
    unfold tellE
    cases hx : lookE a E with
    | none =>
      have hy : lookE a F = none := by
        have := h.some a
        rw [hx] at this
        cases hz : lookE a F with
        | none => rfl
        | some z => rw [hz] at this; cases this
      rw [hy]
      exact ⟨rfl, rfl, h⟩
    | some x =>
      obtain ⟨y, hy⟩ : ∃ y, lookE a F = some y := by
        have := h.some a
        rw [hx] at this
        cases hz : lookE a F with
        | none => rw [hz] at this; cases this
        | some z => exact ⟨z, rfl⟩
      rw [hy]
      have ih := tell_sim f (a + 1) (h.erase hx hy)
      have hb := h.look a
      rw [hx, hy] at hb
      simp only [Option.map_some, Option.some.injEq] at hb
      refine ⟨?_, ih.2.1, ih.2.2⟩
      simp only [List.map_cons, hb, ih.1]
theorem SimE.snoc {E F : List Er} (h : SimE E F) {k : Int} (v u : Value) (b : List Nat) (hk : ¬ (lookE k E).isSome = true) : SimE (E ++ [⟨k, v, b⟩]) (F ++ [⟨k, u, b⟩]) := by
  have hE : lookE k E = none := by cases hz : lookE k E with | none => rfl | some z => rw [hz] at hk; exact absurd rfl hk
  have hF : lookE k F = none := by have := h.some k; rw [hE] at this; cases hz : lookE k F with | none => rfl | some z => rw [hz] at this; cases this
  have n1 := look_none hE
  have n2 := look_none hF
  refine ⟨by simp [h.len], ?_, ?_, fun n => ?_⟩
  · rw [List.map_append, List.nodup_append]
    refine ⟨h.ne, by simp, fun a ha b' hb e => ?_⟩
    simp at hb
    subst hb
    exact n1 (e ▸ ha)
  · rw [List.map_append, List.nodup_append]
    refine ⟨h.nf, by simp, fun a ha b' hb e => ?_⟩
    simp at hb
    subst hb
    exact n2 (e ▸ ha)
  · have hl := h.look n
    unfold lookE at hl ⊢
    rw [List.find?_append, List.find?_append]
    cases hx : List.find? (fun x => decide (x.key = n)) E with
    | some x =>
      rw [hx] at hl
      cases hy : List.find? (fun x => decide (x.key = n)) F with
      | some y => rw [hy] at hl; exact hl
      | none => rw [hy] at hl; cases hl
    | none =>
      rw [hx] at hl
      cases hy : List.find? (fun x => decide (x.key = n)) F with
      | some y => rw [hy] at hl; cases hl
      | none =>
        by_cases e : k = n
        · simp [e]
        · simp [e]
theorem Sim.keep {s t : CS} (h : Sim s t) (k : Int) (v u : Value) (b : List Nat) : Sim (keepS s k v b) (keepS t k u b) := by
  unfold keepS
  rw [← h.want, ← h.early.some k]
  split
  · exact ⟨h.next, h.q, rfl, h.early, rfl, h.conn⟩
  · rename_i hk
    exact ⟨h.next, h.q, rfl, h.early.snoc v u b (fun e => hk (.inr (.inr e))), rfl, h.conn⟩
theorem ackN_sim (a : Int) : ∀ {q r : List Par}, q.map sk = r.map sk → ackN a q = ackN a r
  | [], [], _ => rfl
  | [], _ :: _, h => by cases h
  | _ :: _, [], h => by cases h
  | x :: q, y :: r, h => by
    rw [List.map_cons, List.map_cons] at h
    injection h with h1 h2
    unfold sk at h1
    simp only [Prod.mk.injEq] at h1
    unfold ackN
    rw [h1.1, h1.2.2.1, ackN_sim a h2]
theorem Sim.ack {s t : CS} (h : Sim s t) (a : Int) : Sim (ackS s a) (ackS t a) := by
  refine ⟨h.next, ?_, h.want, h.early, h.owes, h.conn⟩
  show (s.q.drop _).map sk = (t.q.drop _).map sk
  rw [ackN_sim a h.q, List.map_drop, List.map_drop, h.q]
theorem Sim.told {s t : CS} (h : Sim s t) : Sim (toldS s) (toldS t) := by
  have := tell_sim s.early.length s.want h.early
  unfold toldS
  rw [← h.early.len, ← h.want]
  exact ⟨h.next, h.q, this.2.1, this.2.2, h.owes, h.conn⟩
theorem Sim.take {s t : CS} (h : Sim s t) (c q a : Int) (b : List Nat) (v u : Value) : Sim (takeS s c q a b v) (takeS t c q a b u) ∧ (takeO s c q a b v).map Er.body = (takeO t c q a b u).map Er.body ∧ takeE s c q a b.length = takeE t c q a b.length := by
  have e : takeE s c q a b.length = takeE t c q a b.length := by unfold takeE; rw [h.conn]
  refine ⟨?_, ?_, e⟩
  · unfold takeS
    rw [e]
    split
    · exact h
    · split
      · exact h.ack a
      · exact ((h.ack a).keep q v u b).told
  · unfold takeO
    rw [e]
    split
    · rfl
    · split
      · rfl
      · have hk := (h.ack a).keep q v u b
        rw [← hk.early.len, ← hk.want]
        exact (tell_sim _ _ hk.early).1
theorem q_len {s t : CS} (h : Sim s t) : s.q.length = t.q.length := by have := congrArg List.length h.q; simpa using this
theorem Sim.send {s t : CS} (h : Sim s t) (v u : Value) (l : List Nat) : Sim (sendS s v l) (sendS t u l) ∧ sendE s l.length = sendE t l.length := by
  have e : sendE s l.length = sendE t l.length := by unfold sendE; rw [q_len h, h.next]
  refine ⟨?_, e⟩
  unfold sendS
  rw [e]
  split
  · exact ⟨by show s.next + 1 = t.next + 1; rw [h.next], by show (s.q ++ _).map sk = (t.q ++ _).map sk; rw [List.map_append, List.map_append, h.q]; simp [sk, h.next], h.want, h.early, h.owes, h.conn⟩
  · exact h
def ageK (x : Int × List Nat × Bool × Int) : Int × List Nat × Bool × Int := if x.2.2.1 = true then (x.1, x.2.1, x.2.2.1, x.2.2.2 + 1) else x
def duK (x : Int × List Nat × Bool × Int) : Bool := !(x.2.2.1 && decide (x.2.2.2 < 3))
def freshK (x : Int × List Nat × Bool × Int) : Int × List Nat × Bool × Int := if duK x = true then (x.1, x.2.1, true, 0) else x
theorem age_sk (p : Par) : sk (agePar p) = ageK (sk p) := by unfold agePar ageK sk; split <;> rfl
theorem fresh_sk (p : Par) : sk (freshP p) = freshK (sk p) := by
  unfold freshP freshK
  rw [show duK (sk p) = duE p from rfl]
  split <;> rfl
theorem mapN_sk {f : Par → Par} {g : Int × List Nat × Bool × Int → Int × List Nat × Bool × Int} (hf : ∀ p, sk (f p) = g (sk p)) (k : Nat) (q : List Par) : (mapN f k q).map sk = ((q.map sk).take k).map g ++ (q.map sk).drop k := by
  unfold mapN
  rw [List.map_append, List.map_map, ← List.map_take, List.map_map, List.map_drop]
  congr 1
  exact List.map_congr_left (fun p _ => hf p)
theorem Sim.tick {s t : CS} (h : Sim s t) : Sim (tickS s) (tickS t) := by
  refine ⟨h.next, ?_, h.want, h.early, h.owes, h.conn⟩
  show (mapN agePar _ s.q).map sk = (mapN agePar _ t.q).map sk
  rw [mapN_sk age_sk, mapN_sk age_sk, h.q, q_len h]
theorem outL_sk (k : Nat) (q : List Par) : (outL k q).map sk = (((q.map sk).take k).filter duK).map freshK := by
  unfold outL
  rw [← List.map_take, List.filter_map, List.map_map, List.map_map]
  rw [show (duK ∘ sk) = duE from rfl]
  exact List.map_congr_left (fun p _ => fresh_sk p)
theorem Sim.out {s t : CS} (h : Sim s t) : Sim (outS s) (outS t) ∧ outs s = outs t := by
  refine ⟨⟨h.next, ?_, h.want, h.early, rfl, h.conn⟩, ?_⟩
  · show (mapN freshP _ s.q).map sk = (mapN freshP _ t.q).map sk
    rw [mapN_sk fresh_sk, mapN_sk fresh_sk, h.q, q_len h]
  · have hl : (lvOf s).map sk = (lvOf t).map sk := by
      unfold lvOf
      rw [outL_sk, outL_sk, h.q, q_len h]
    have hn : (lvOf s).length = (lvOf t).length := by have := congrArg List.length hl; simpa using this
    have hk : (lvOf s).map (outK s) = (lvOf t).map (outK t) := by
      have e1 : ∀ (z : CS) (l : List Par), l.map (outK z) = (l.map sk).map (fun x => ((z.conn, x.1, z.want - 1, x.2.1) : Key)) := fun z l => by rw [List.map_map]; rfl
      rw [e1, e1, hl, h.conn, h.want]
    unfold outs
    rw [hn, hk, h.owes, h.conn, h.want]
end Go.Proofs.Ytmkpphkdaiienaa
