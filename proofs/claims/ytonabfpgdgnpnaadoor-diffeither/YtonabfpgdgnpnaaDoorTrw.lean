/- Two feeds, two rows of own parts, parts in boxes; the limit. -/
import Derived.Test.YtonabfpgdgnpnaaDoorTr0
import Derived.Test.YtonabfpgdgnpnaaDoorCmp
namespace Go.Proofs.YtonabfpgdgnpnaaDoor
set_option linter.unusedVariables false
set_option linter.unusedSimpArgs false
open Go.ChangeShapes Go.WideShapes Go.ChangeAt Go.RowKit Go.Joins Go.Deep

structure TW (w wr : World) (g1 g2 B : Nat) (v1 v2 : Value) (lf lg L1 L2 : List Pt) (bx : List (Nat × Pt)) : Prop where
  f1 : Fa wr g1 B lf
  f2 : Fa wr g2 B lg
  o1 : OwnP wr w.heap.size v1 L1
  o2 : OwnP wr w.heap.size v2 L2
  sep : ∀ k, v1.ownBlock = some k → v2.ownBlock ≠ some k
  bel : Below w.heap.size w wr
  ne : g1 ≠ g2
  h1 : w.heap.size ≤ g1
  h2 : w.heap.size ≤ g2
  hB : B ≤ w.heap.size
  box : ∀ q p, (q, p) ∈ bx → RowAt wr q 39 (pcs p) ∧ v1.ownBlock ≠ some q ∧ v2.ownBlock ≠ some q ∧ w.heap.size ≤ q
theorem TW.call {w wr w' : World} {g1 g2 B : Nat} {v1 v2 : Value} {lf lg L1 L2 : List Pt} {bx : List (Nat × Pt)} (h : TW w wr g1 g2 B v1 v2 lf lg L1 L2 bx) (hb : Below wr.heap.size wr w') : TW w w' g1 g2 B v1 v2 lf lg L1 L2 bx :=
  ⟨h.f1.call hb, h.f2.call hb, h.o1.call hb, h.o2.call hb, h.sep, h.bel.trans (hb.mono h.bel.size), h.ne, h.h1, h.h2, h.hB, fun q p m => ⟨(h.box q p m).1.below hb (h.box q p m).1.lt, (h.box q p m).2⟩⟩
theorem TW.boxne {w wr : World} {g1 g2 B : Nat} {v1 v2 : Value} {lf lg L1 L2 : List Pt} {bx : List (Nat × Pt)} (h : TW w wr g1 g2 B v1 v2 lf lg L1 L2 bx) {q : Nat} {p : Pt} (m : (q, p) ∈ bx) : q ≠ g1 ∧ q ≠ g2 := by
  obtain ⟨c1, r1⟩ := h.f1.row
  obtain ⟨c2, r2⟩ := h.f2.row
  exact ⟨rtag (h.box q p m).1 r1 (by decide), rtag (h.box q p m).1 r2 (by decide)⟩
theorem TW.one {w wr w' : World} {g1 g2 B : Nat} {v1 v2 : Value} {lf lg L1 L2 : List Pt} {bx : List (Nat × Pt)} {lf' : List Pt} (h : TW w wr g1 g2 B v1 v2 lf lg L1 L2 bx) (f : Fa w' g1 B lf') (ho : Only (· = g1) wr w') : TW w w' g1 g2 B v1 v2 lf' lg L1 L2 bx :=
  ⟨f, h.f2.keep ho (fun e => h.ne e.symm) (fun k hk => by have := h.h1; have := h.hB; omega), own_only h.o1 ho (fun k hk e => h.o1.ne h.f1 (e ▸ hk)), own_only h.o2 ho (fun k hk e => h.o2.ne h.f1 (e ▸ hk)), h.sep, h.bel.trans (ho.below h.bel.size (fun k hk => by have := h.h1; omega)), h.ne, h.h1, h.h2, h.hB, fun q p m => ⟨(h.box q p m).1.only ho (fun e => (h.boxne m).1 e), (h.box q p m).2⟩⟩
theorem TW.two {w wr w' : World} {g1 g2 B : Nat} {v1 v2 : Value} {lf lg L1 L2 : List Pt} {bx : List (Nat × Pt)} {lg' : List Pt} (h : TW w wr g1 g2 B v1 v2 lf lg L1 L2 bx) (f : Fa w' g2 B lg') (ho : Only (· = g2) wr w') : TW w w' g1 g2 B v1 v2 lf lg' L1 L2 bx :=
  ⟨h.f1.keep ho (fun e => h.ne e) (fun k hk => by have := h.h2; have := h.hB; omega), f, own_only h.o1 ho (fun k hk e => h.o1.ne h.f2 (e ▸ hk)), own_only h.o2 ho (fun k hk e => h.o2.ne h.f2 (e ▸ hk)), h.sep, h.bel.trans (ho.below h.bel.size (fun k hk => by have := h.h2; omega)), h.ne, h.h1, h.h2, h.hB, fun q p m => ⟨(h.box q p m).1.only ho (fun e => (h.boxne m).2 e), (h.box q p m).2⟩⟩
theorem TW.both {w wr w' : World} {g1 g2 B : Nat} {v1 v2 : Value} {lf lg L1 L2 : List Pt} {bx : List (Nat × Pt)} {lf' lg' : List Pt} (h : TW w wr g1 g2 B v1 v2 lf lg L1 L2 bx) (f : Fa w' g1 B lf') (f' : Fa w' g2 B lg') (ho : Only (fun k => k = g1 ∨ k = g2) wr w') : TW w w' g1 g2 B v1 v2 lf' lg' L1 L2 bx :=
  ⟨f, f', own_only h.o1 ho (fun k hk e => by rcases e with e | e; exact h.o1.ne h.f1 (e ▸ hk); exact h.o1.ne h.f2 (e ▸ hk)), own_only h.o2 ho (fun k hk e => by rcases e with e | e; exact h.o2.ne h.f1 (e ▸ hk); exact h.o2.ne h.f2 (e ▸ hk)), h.sep, h.bel.trans (ho.below h.bel.size (fun k hk => by have := h.h1; have := h.h2; omega)), h.ne, h.h1, h.h2, h.hB, fun q p m => ⟨(h.box q p m).1.only ho (fun e => by rcases e with e | e; exact (h.boxne m).1 e; exact (h.boxne m).2 e), (h.box q p m).2⟩⟩
theorem TW.push {w wr : World} {g1 g2 B : Nat} {v1 v2 : Value} {lf lg L1 L2 : List Pt} {bx : List (Nat × Pt)} (h : TW w wr g1 g2 B v1 v2 lf lg L1 L2 bx) (p : Pt) : TW w (wr.alloc (.cells #[.int .i64 p.kind, .int .i64 p.n, .string p.text] 39)) g1 g2 B v1 v2 lf lg L1 L2 ((wr.heap.size, p) :: bx) := by
  have h' := h.call (w' := wr.alloc (.cells #[.int .i64 p.kind, .int .i64 p.n, .string p.text] 39)) ((Below.refl _ _).alloc (Nat.le_refl _) _)
  refine ⟨h'.f1, h'.f2, h'.o1, h'.o2, h'.sep, h'.bel, h'.ne, h'.h1, h'.h2, h'.hB, fun q p' m => ?_⟩
  rcases List.mem_cons.1 m with e | m
  · obtain ⟨rfl, rfl⟩ : q = wr.heap.size ∧ p' = p := by simpa using e
    exact ⟨RowAt.new wr 39 (pcs p'), fun e => by have := (h.o1.lt _ e).2; omega, fun e => by have := (h.o2.lt _ e).2; omega, h.bel.size⟩
  · exact h'.box q p' m
theorem TW.pop {w wr : World} {g1 g2 B : Nat} {v1 v2 : Value} {lf lg L1 L2 : List Pt} {bx : List (Nat × Pt)} (h : TW w wr g1 g2 B v1 v2 lf lg L1 L2 bx) : TW w wr g1 g2 B v1 v2 lf lg L1 L2 [] :=
  ⟨h.f1, h.f2, h.o1, h.o2, h.sep, h.bel, h.ne, h.h1, h.h2, h.hB, fun q p m => by cases m⟩
theorem TW.app1 {w wr w' : World} {g1 g2 B : Nat} {v1 v2 : Value} {lf lg L1 L2 : List Pt} {bx : List (Nat × Pt)} {v' : Value} {p : Pt} (h : TW w wr g1 g2 B v1 v2 lf lg L1 L2 bx) (hv : w'.ownsRow w.heap.size 39 3 v' (L1.length + 1) (ptc L1 ++ pcs p)) (ho : Only (fun k => v1.ownBlock = some k) wr w') (hk : ∀ q, v'.ownBlock = some q → v1.ownBlock = some q ∨ q = wr.heap.size) : TW w w' g1 g2 B v' v2 lf lg (L1 ++ [p]) L2 bx := by
  refine ⟨h.f1.keep ho (fun e => h.o1.ne h.f1 e) (fun k hk => Nat.le_trans h.hB (h.o1.lt k hk).1), h.f2.keep ho (fun e => h.o1.ne h.f2 e) (fun k hk => Nat.le_trans h.hB (h.o1.lt k hk).1), by unfold OwnP; rw [List.length_append, List.length_singleton, ptc_snoc]; exact hv, own_only h.o2 ho (fun k hk e => h.sep k e hk), fun k hk2 e => ?_, h.bel.trans (ho.below h.bel.size (fun k hk => (h.o1.lt k hk).1)), h.ne, h.h1, h.h2, h.hB, fun q p m => ⟨(h.box q p m).1.only ho (fun e => (h.box q p m).2.1 e), fun e => ?_, (h.box q p m).2.2⟩⟩
  · rcases hk k hk2 with h1 | h1
    · exact h.sep k h1 e
    · have := (h.o2.lt k e).2; omega
  · rcases hk q e with h1 | h1
    · exact (h.box q p m).2.1 h1
    · have := (h.box q p m).1.lt; omega
theorem TW.app2 {w wr w' : World} {g1 g2 B : Nat} {v1 v2 : Value} {lf lg L1 L2 : List Pt} {bx : List (Nat × Pt)} {v' : Value} {p : Pt} (h : TW w wr g1 g2 B v1 v2 lf lg L1 L2 bx) (hv : w'.ownsRow w.heap.size 39 3 v' (L2.length + 1) (ptc L2 ++ pcs p)) (ho : Only (fun k => v2.ownBlock = some k) wr w') (hk : ∀ q, v'.ownBlock = some q → v2.ownBlock = some q ∨ q = wr.heap.size) : TW w w' g1 g2 B v1 v' lf lg L1 (L2 ++ [p]) bx := by
  refine ⟨h.f1.keep ho (fun e => h.o2.ne h.f1 e) (fun k hk => Nat.le_trans h.hB (h.o2.lt k hk).1), h.f2.keep ho (fun e => h.o2.ne h.f2 e) (fun k hk => Nat.le_trans h.hB (h.o2.lt k hk).1), own_only h.o1 ho (fun k hk e => h.sep k hk e), by unfold OwnP; rw [List.length_append, List.length_singleton, ptc_snoc]; exact hv, fun k hk1 e => ?_, h.bel.trans (ho.below h.bel.size (fun k hk => (h.o2.lt k hk).1)), h.ne, h.h1, h.h2, h.hB, fun q p m => ⟨(h.box q p m).1.only ho (fun e => (h.box q p m).2.2.1 e), (h.box q p m).2.1, fun e => ?_, (h.box q p m).2.2.2⟩⟩
  · rcases hk k e with h1 | h1
    · exact h.sep k hk1 h1
    · have := (h.o1.lt k hk1).2; omega
  · rcases hk q e with h1 | h1
    · exact (h.box q p m).2.2.1 h1
    · have := (h.box q p m).1.lt; omega
/-- what inLimit answers -/
def LimR (l : List Pt) (v1 v2 : Value) (r : Ending) : Prop := sizeL l = none ∧ r = .returned (.tuple #[.slice none 0 0, .slice none 0 0, .int .i64 4]) ∨ sizeL l ≠ none ∧ r = .returned (.tuple #[v1, v2, .int .i64 0])
set_option maxRecDepth 100000 in
set_option maxHeartbeats 4000000 in
theorem inLimit_any (a : Option Addr) (l : List Pt) (c : Nat) (v2 : Value) (w : World) (hT : UT w) (hp : PtsAt w a l) (hc : l.length ≤ maxLen) (hs : ∀ p ∈ l, p.text.size ≤ 281474976710656) :
    Calls Tryd.prog 69 #[.slice a l.length c, v2] w fun r w' => LimR l (.slice a l.length c) v2 r ∧ Below w.heap.size w w' := by
  have HS := hide (size_any a l c w hT hp hc hs)
  obtain ⟨n, hn⟩ : ∃ n, l.length = n := ⟨_, rfl⟩
  rw [hn] at HS ⊢
  clear hT hp hc hs hn
  cases hsz : sizeL l with
  | none =>
    have e : szVal l = .tuple #[.int .i64 0, .int .i64 0, .int .i64 30] := by unfold szVal; rw [hsz]
    rw [e] at HS
    have HZ := hide hsz
    clear e hsz
    go_enter Tryd.func69, Tryd.ntmps69
    go_wp2_with fail
    refine Calls.mono (unhide HS) ?_
    rintro r w1 ⟨rfl, hb1⟩
    have HB1 := hide hb1
    clear hb1 HS
    go_wp2_with fail
    go_ret3
    exact ⟨.inl ⟨unhide HZ, rfl⟩, unhide HB1⟩
  | some x =>
    obtain ⟨fa, ta, ka⟩ := x
    have e : szVal l = .tuple #[.int .i64 fa, .int .i64 ta, .int .i64 0] := by unfold szVal; rw [hsz]
    rw [e] at HS
    have HZ := hide hsz
    clear e hsz
    go_enter Tryd.func69, Tryd.ntmps69
    go_wp2_with fail
    refine Calls.mono (unhide HS) ?_
    rintro r w1 ⟨rfl, hb1⟩
    have HB1 := hide hb1
    clear hb1 HS
    go_wp2_with fail
    go_ret3
    exact ⟨.inr ⟨by rw [unhide HZ]; simp, rfl⟩, unhide HB1⟩
end Go.Proofs.YtonabfpgdgnpnaaDoor
