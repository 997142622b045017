/- What a list of calls makes of an end, but for blocks: no model in it. -/
import Derived.Test.YtmkpphkdaiienaaCTw3
import Derived.Test.YtmkpphkdaiienaaCDo
namespace Go.Proofs.Ytmkpphkdaiienaa
set_option linter.unusedVariables false
set_option linter.unusedSimpArgs false
open Go.ChangeShapes Go.WideShapes Go.ChangeAt Go.RowKit Go.Joins Go.Deep

theorem SimE.symm {E F : List Er} (h : SimE E F) : SimE F E := ⟨h.len.symm, h.nf, h.ne, fun n => (h.look n).symm⟩
theorem SimE.trans {E F G : List Er} (h : SimE E F) (k : SimE F G) : SimE E G := ⟨h.len.trans k.len, h.ne, k.nf, fun n => (h.look n).trans (k.look n)⟩
theorem Sim.symm {s t : CS} (h : Sim s t) : Sim t s := ⟨h.next.symm, h.q.symm, h.want.symm, h.early.symm, h.owes.symm, h.conn.symm⟩
theorem Sim.trans {s t u : CS} (h : Sim s t) (k : Sim t u) : Sim s u := ⟨h.next.trans k.next, h.q.trans k.q, h.want.trans k.want, h.early.trans k.early, h.owes.trans k.owes, h.conn.trans k.conn⟩
theorem SimE.nil : SimE [] [] := ⟨rfl, by simp, by simp, fun n => rfl⟩
def kd (k : Int) : Int := wrap64 ((IntKind.u64.wrap k).tmod 6)
def oneK (s : CS) (c : Cl) : CS := if kd c.op = 0 ∨ kd c.op = 1 then sendS s (.slice none 0 0) c.b else if kd c.op = 2 ∨ kd c.op = 3 then takeS s c.conn c.seq c.ack c.b (.slice none 0 0) else if kd c.op = 4 then tickS s else outS s
def oneO (s : CS) (c : Cl) : List Key := if kd c.op = 0 ∨ kd c.op = 1 then [] else if kd c.op = 2 ∨ kd c.op = 3 then [] else if kd c.op = 4 then [] else outs s
def runK (s : CS) : List Cl → CS
  | [] => s
  | c :: r => runK (oneK s c) r
def runO (s : CS) : List Cl → List Key
  | [] => []
  | c :: r => oneO s c ++ runO (oneK s c) r
theorem runK_app : ∀ (a b : List Cl) (s : CS), runK s (a ++ b) = runK (runK s a) b
  | [], b, s => rfl
  | c :: r, b, s => runK_app r b (oneK s c)
theorem runO_app : ∀ (a b : List Cl) (s : CS), runO s (a ++ b) = runO s a ++ runO (runK s a) b
  | [], b, s => by simp [runO, runK]
  | c :: r, b, s => by
    show oneO s c ++ runO (oneK s c) (r ++ b) = oneO s c ++ runO (oneK s c) r ++ runO (runK (oneK s c) r) b
    rw [runO_app r b (oneK s c), List.append_assoc]
theorem runK_next {L : List Cl} {k : Nat} {c : Cl} (h : L[k]? = some c) (s : CS) : runK s (L.take (k + 1)) = oneK (runK s (L.take k)) c ∧ runO s (L.take (k + 1)) = runO s (L.take k) ++ oneO (runK s (L.take k)) c := by
  rw [List.take_add_one, h, runK_app, runO_app]
  simp [runK, runO]
theorem kd6 (k : Int) : kd k = 0 ∨ kd k = 1 ∨ kd k = 2 ∨ kd k = 3 ∨ kd k = 4 ∨ kd k = 5 := by
  unfold kd
  have h0 : 0 ≤ IntKind.u64.wrap k := by unfold IntKind.wrap; simp [IntKind.signed, IntKind.bits]; omega
  rw [Int.tmod_eq_emod_of_nonneg h0]
  have g1 := Int.emod_nonneg (IntKind.u64.wrap k) (show (6 : Int) ≠ 0 by omega)
  have g2 := Int.emod_lt_of_pos (IntKind.u64.wrap k) (show (0 : Int) < 6 by omega)
  generalize IntKind.u64.wrap k % 6 = x at *
  unfold wrap64
  omega
def Q256 (s : CS) : Prop := ∀ p ∈ s.q, ∀ y ∈ p.body, y < 256
theorem Q256.send {s : CS} (h : Q256 s) (v : Value) {l : List Nat} (hl : ∀ y ∈ l, y < 256) : Q256 (sendS s v l) := by
  unfold sendS
  split
  · intro p hp y hy
    have hp' : p ∈ s.q ++ [⟨s.next, v, l, false, 0⟩] := hp
    rcases List.mem_append.1 hp' with h1 | h1
    · exact h p h1 y hy
    · rw [List.mem_singleton] at h1
      subst h1
      exact hl y hy
  · exact h
theorem Q256.ack {s : CS} (h : Q256 s) (a : Int) : Q256 (ackS s a) := fun p hp => h p (List.mem_of_mem_drop hp)
theorem Q256.take {s : CS} (h : Q256 s) (c q a : Int) (b : List Nat) (v : Value) : Q256 (takeS s c q a b v) := by
  unfold takeS
  split
  · exact h
  · split
    · exact h.ack a
    · intro p hp
      have hp' : p ∈ (keepS (ackS s a) q v b).q := hp
      have e : (keepS (ackS s a) q v b).q = (ackS s a).q := by unfold keepS; split <;> rfl
      rw [e] at hp'
      exact h.ack a p hp'
theorem q256_mapN {f : Par → Par} (hf : ∀ p, (f p).body = p.body) {q : List Par} (h : ∀ p ∈ q, ∀ y ∈ p.body, y < 256) (k : Nat) : ∀ p ∈ mapN f k q, ∀ y ∈ p.body, y < 256 := by
  intro p hp y hy
  unfold mapN at hp
  rcases List.mem_append.1 hp with h1 | h1
  · obtain ⟨p', hp', rfl⟩ := List.mem_map.1 h1
    rw [hf] at hy
    exact h p' (List.mem_of_mem_take hp') y hy
  · exact h p (List.mem_of_mem_drop h1) y hy
theorem Q256.tick {s : CS} (h : Q256 s) : Q256 (tickS s) := q256_mapN (fun p => by unfold agePar; split <;> rfl) h _
theorem Q256.out {s : CS} (h : Q256 s) : Q256 (outS s) := q256_mapN (fun p => by unfold freshP; split <;> rfl) h _
theorem Q256.outs {s : CS} (h : Q256 s) : ∀ k ∈ outs s, ∀ y ∈ k.2.2.2, y < 256 := by
  intro k hk y hy
  unfold Ytmkpphkdaiienaa.outs at hk
  split at hk
  · split at hk
    · rw [List.mem_singleton] at hk
      subst hk
      cases hy
    · cases hk
  · obtain ⟨p, hp, rfl⟩ := List.mem_map.1 hk
    have hm : p ∈ ((s.q.take (min s.q.length 4)).filter duE).map freshP := hp
    obtain ⟨p', hp', rfl⟩ := List.mem_map.1 hm
    have hy' : y ∈ (freshP p').body := hy
    rw [show (freshP p').body = p'.body by unfold freshP; split <;> rfl] at hy'
    exact h p' (List.mem_of_mem_take (List.mem_filter.1 hp').1) y hy'
theorem Q256.one {s : CS} (h : Q256 s) {c : Cl} (hc : ∀ y ∈ c.b, y < 256) : Q256 (oneK s c) ∧ ∀ k ∈ oneO s c, ∀ y ∈ k.2.2.2, y < 256 := by
  unfold oneK oneO
  split
  · exact ⟨h.send _ hc, fun k hk => (by cases hk)⟩
  · split
    · exact ⟨h.take _ _ _ _ _, fun k hk => (by cases hk)⟩
    · split
      · exact ⟨h.tick, fun k hk => (by cases hk)⟩
      · exact ⟨h.out, h.outs⟩
theorem Q256.run : ∀ {L : List Cl} {s : CS}, Q256 s → (∀ c ∈ L, ∀ y ∈ c.b, y < 256) → Q256 (runK s L) ∧ ∀ k ∈ runO s L, ∀ y ∈ k.2.2.2, y < 256
  | [], s, h, _ => ⟨h, fun k hk => (by cases hk)⟩
  | c :: r, s, h, hc => by
    have h1 := h.one (hc c List.mem_cons_self)
    have h2 := Q256.run h1.1 (fun x hx => hc x (List.mem_cons_of_mem _ hx))
    exact ⟨h2.1, fun k hk => (List.mem_append.1 hk).elim (h1.2 k) (h2.2 k)⟩
end Go.Proofs.Ytmkpphkdaiienaa
