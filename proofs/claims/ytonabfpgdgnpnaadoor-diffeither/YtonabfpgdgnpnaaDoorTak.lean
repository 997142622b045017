/- A piece of an edit is taken (feed's take, whole). -/
import Derived.Test.YtonabfpgdgnpnaaDoorFed
namespace Go.Proofs.YtonabfpgdgnpnaaDoor
set_option linter.unusedVariables false
set_option linter.unusedSimpArgs false
open Go.ChangeShapes Go.WideShapes Go.ChangeAt Go.RowKit Go.Joins Go.Deep

/-- a feed of these parts, the head first; behind the end there is none; the parts lie below block B -/
def Feed (w : World) (g B : Nat) (l : List Pt) : Prop := ∃ a c, Fd w g (l.headD noPt) a c l.tail ∧ ∀ b off, a = some ⟨b, off, none⟩ → b < B
theorem next_any {w : World} {g B : Nat} {h : Pt} {a : Option Addr} {c : Nat} {l : List Pt} (f : Fd w g h a c l) (hB : ∀ b off, a = some ⟨b, off, none⟩ → b < B) : Calls Tryd.prog 82 #[.pointer (some ⟨g, 0, none⟩)] w fun r w' => r = .returned (.tuple #[]) ∧ Feed w' g B l ∧ Only (· = g) w w' := by
  cases l with
  | nil =>
    refine Calls.mono (next_end f) ?_
    rintro r w' ⟨rfl, h1, h2⟩
    exact ⟨rfl, ⟨a, c, h1, hB⟩, h2⟩
  | cons p l =>
    refine Calls.mono (next_cons f) ?_
    rintro r w' ⟨rfl, ⟨a', c', h1, h3⟩, h2⟩
    exact ⟨rfl, ⟨a', c', h1, fun b off e => by obtain ⟨o0, e0⟩ := h3 b off e; exact hB b o0 e0⟩, h2⟩
/-- a feed stays as it is where neither it nor its parts turn -/
theorem Feed.keep {w w' : World} {g B : Nat} {l : List Pt} (h : Feed w g B l) {p : Nat → Prop} (ho : Only p w w') (hg : ¬ p g) (hp : ∀ k, p k → B ≤ k) : Feed w' g B l := by
  obtain ⟨a, c, f, hB⟩ := h
  exact ⟨a, c, ⟨f.row.only ho hg, f.pts.only ho (fun b off e hb => by have := hp b hb; have := hB b off e; omega), f.far, f.cap⟩, hB⟩
set_option maxRecDepth 100000 in
set_option maxHeartbeats 4000000 in
theorem take_all {w : World} {g : Nat} {h : Pt} {a : Option Addr} {c : Nat} {l : List Pt} (f : Fd w g h a c l) {B : Nat} (hB : ∀ b off, a = some ⟨b, off, none⟩ → b < B) (hBw : B ≤ w.heap.size) (n : Int) (hn : h.n ≤ n) : Calls Tryd.prog 83 #[.pointer (some ⟨g, 0, none⟩), .int .i64 n] w fun r w' => r = .returned (pv h) ∧ Feed w' g B l ∧ Only (· = g) w w' := by
  have hz : Below w.heap.size w (w.alloc (.cells #[.int .i64 0, .int .i64 0, .string ⟨#[]⟩] 39)) := (Below.refl _ _).alloc (Nat.le_refl _) _
  have fz := f.call hz
  have c0 : (w.alloc (.cells #[.int .i64 0, .int .i64 0, .string ⟨#[]⟩] 39)).cell? ⟨g, 0, none⟩ = some (.int .i64 h.kind) := fz.row.cell 0
  have c1 : (w.alloc (.cells #[.int .i64 0, .int .i64 0, .string ⟨#[]⟩] 39)).cell? ⟨g, 1, none⟩ = some (.int .i64 h.n) := fz.row.cell 1
  have c2 : (w.alloc (.cells #[.int .i64 0, .int .i64 0, .string ⟨#[]⟩] 39)).cell? ⟨g, 2, none⟩ = some (.string h.text) := fz.row.cell 2
  have hb : Below w.heap.size w ((w.alloc (.cells #[.int .i64 0, .int .i64 0, .string ⟨#[]⟩] 39)).alloc (.cells #[.int .i64 h.kind, .int .i64 h.n, .string h.text] 39)) := hz.alloc hz.size _
  have HX := hide (next_any (f.call hb) hB)
  have HB := hide hb
  have HR : Hid (RowAt ((w.alloc (.cells #[.int .i64 0, .int .i64 0, .string ⟨#[]⟩] 39)).alloc (.cells #[.int .i64 h.kind, .int .i64 h.n, .string h.text] 39)) (w.heap.size + 1) 39 [.int .i64 h.kind, .int .i64 h.n, .string h.text]) := hide (by
    have := RowAt.new (w.alloc (.cells #[.int .i64 0, .int .i64 0, .string ⟨#[]⟩] 39)) 39 [.int .i64 h.kind, .int .i64 h.n, .string h.text]
    rw [size_alloc] at this
    exact this)
  have HZ : Hid (RowAt ((w.alloc (.cells #[.int .i64 0, .int .i64 0, .string ⟨#[]⟩] 39)).alloc (.cells #[.int .i64 h.kind, .int .i64 h.n, .string h.text] 39)) w.heap.size 39 [.int .i64 0, .int .i64 0, .string ⟨#[]⟩]) := hide ((RowAt.new w 39 [.int .i64 0, .int .i64 0, .string ⟨#[]⟩]).below ((Below.refl _ _).alloc (Nat.le_refl _) _) (by rw [size_alloc]; omega))
  have HG := hide f.row.lt
  clear f hb hz fz
  go_enter Tryd.func83, Tryd.ntmps83
  go_wp2_with fail
  refine Calls.mono (unhide HX) ?_
  rintro r w2 ⟨rfl, hf, ho⟩
  have hr2 := (unhide HR).only ho (by have := unhide HG; omega)
  have hz2 := (unhide HZ).only ho (by have := unhide HG; omega)
  have r0 : w2.cell? ⟨w.heap.size + 1, 0, none⟩ = some (.int .i64 h.kind) := hr2.cell 0
  have r1 : w2.cell? ⟨w.heap.size + 1, 1, none⟩ = some (.int .i64 h.n) := hr2.cell 1
  have r2 : w2.cell? ⟨w.heap.size + 1, 2, none⟩ = some (.string h.text) := hr2.cell 2
  have q0 : w2.cell? ⟨w.heap.size, 0, none⟩ = some (.int .i64 0) := hz2.cell 0
  have q1 : w2.cell? ⟨w.heap.size, 1, none⟩ = some (.int .i64 0) := hz2.cell 1
  have q2 : w2.cell? ⟨w.heap.size, 2, none⟩ = some (.string ⟨#[]⟩) := hz2.cell 2
  have z0 : w2.frozen? ⟨w.heap.size, 0, none⟩ = false := hz2.frozen 0
  have z1 : w2.frozen? ⟨w.heap.size, 1, none⟩ = false := hz2.frozen 1
  have z2 : w2.frozen? ⟨w.heap.size, 2, none⟩ = false := hz2.frozen 2
  have HF := hide hf
  have HO := hide ((Only.of_below (unhide HB)).trans ho)
  have hfin : RowAt (((w2.setCell ⟨w.heap.size, 0, none⟩ (.int .i64 h.kind)).setCell ⟨w.heap.size, 1, none⟩ (.int .i64 h.n)).setCell ⟨w.heap.size, 2, none⟩ (.string h.text)) w.heap.size 39 [.int .i64 h.kind, .int .i64 h.n, .string h.text] := ((hz2.set 0 (.int .i64 h.kind)).set 1 (.int .i64 h.n)).set 2 (.string h.text)
  have HFIN := hide hfin
  clear hf ho hr2 hz2 HX HR HZ c0 c1 c2 hfin
  go_wp2_with fail
  have hon : Only (· = w.heap.size) w2 (((w2.setCell ⟨w.heap.size, 0, none⟩ (.int .i64 h.kind)).setCell ⟨w.heap.size, 1, none⟩ (.int .i64 h.n)).setCell ⟨w.heap.size, 2, none⟩ (.string h.text)) := (((Only.refl (· = w.heap.size) w2).set _ 0 _ rfl).set _ 1 _ rfl).set _ 2 _ rfl
  have HON := hide hon
  clear hon q0 q1 q2 z0 z1 z2 r0 r1 r2
  obtain ⟨w5, hw5⟩ : ∃ w5, (((w2.setCell ⟨w.heap.size, 0, none⟩ (.int .i64 h.kind)).setCell ⟨w.heap.size, 1, none⟩ (.int .i64 h.n)).setCell ⟨w.heap.size, 2, none⟩ (.string h.text)) = w5 := ⟨_, rfl⟩
  rw [hw5] at HFIN HON ⊢
  clear hw5
  have f0 : w5.cell? ⟨w.heap.size, 0, none⟩ = some (.int .i64 h.kind) := (unhide HFIN).cell 0
  have f1 : w5.cell? ⟨w.heap.size, 1, none⟩ = some (.int .i64 h.n) := (unhide HFIN).cell 1
  have f2 : w5.cell? ⟨w.heap.size, 2, none⟩ = some (.string h.text) := (unhide HFIN).cell 2
  refine bodyPost_ret (v := pv h) (by simp [results, Tryd.results83, go_sem, f0, f1, f2, pv]) rfl ?_
  exact ⟨rfl, (unhide HF).keep (unhide HON) (by have := unhide HG; omega) (fun k hk => by omega), (unhide HO).next (unhide HON) (fun k hk => .inr (by omega))⟩
end Go.Proofs.YtonabfpgdgnpnaaDoor
