/- A part of a part is taken (feed's take). -/
import Derived.Test.YtonabfpgdgnpnaaDoorTak
namespace Go.Proofs.YtonabfpgdgnpnaaDoor
set_option linter.unusedVariables false
set_option linter.unusedSimpArgs false
open Go.ChangeShapes Go.WideShapes Go.ChangeAt Go.RowKit Go.Joins Go.Deep

/-- the first n of a part, and the rest -/
def frontPt (h : Pt) (cs : List (List UInt8)) (n : Int) : Pt := ⟨h.kind, n, h.text.extract 0 (placeOf cs (cutK n cs))⟩
def restPt (h : Pt) (cs : List (List UInt8)) (n : Int) : Pt := ⟨h.kind, h.n - n, h.text.extract (placeOf cs (cutK n cs)) h.text.size⟩
set_option maxRecDepth 100000 in
set_option maxHeartbeats 4000000 in
theorem take_part {w : World} {g : Nat} {h : Pt} {a : Option Addr} {c : Nat} {l : List Pt} (f : Fd w g h a c l) {B : Nat} (hB : ∀ b off, a = some ⟨b, off, none⟩ → b < B) (hBw : B ≤ w.heap.size) (hT : UT w) {cs : List (List UInt8)} (ht : Tx h.text cs) (hs : h.text.size ≤ 281474976710656) (n : Int) (hn0 : 0 ≤ n) (hn : n < h.n) (hm : h.n ≤ 1099511627776) :
    Calls Tryd.prog 83 #[.pointer (some ⟨g, 0, none⟩), .int .i64 n] w fun r w' => r = .returned (pv (frontPt h cs n)) ∧ Feed w' g B (restPt h cs n :: l) ∧ Only (· = g) w w' := by
  have hz : Below w.heap.size w (w.alloc (.cells #[.int .i64 0, .int .i64 0, .string ⟨#[]⟩] 39)) := (Below.refl _ _).alloc (Nat.le_refl _) _
  have fz := f.call hz
  have c0 : (w.alloc (.cells #[.int .i64 0, .int .i64 0, .string ⟨#[]⟩] 39)).cell? ⟨g, 0, none⟩ = some (.int .i64 h.kind) := fz.row.cell 0
  have c1 : (w.alloc (.cells #[.int .i64 0, .int .i64 0, .string ⟨#[]⟩] 39)).cell? ⟨g, 1, none⟩ = some (.int .i64 h.n) := fz.row.cell 1
  have c2 : (w.alloc (.cells #[.int .i64 0, .int .i64 0, .string ⟨#[]⟩] 39)).cell? ⟨g, 2, none⟩ = some (.string h.text) := fz.row.cell 2
  have hb : Below w.heap.size w ((w.alloc (.cells #[.int .i64 0, .int .i64 0, .string ⟨#[]⟩] 39)).alloc (.cells #[.int .i64 h.kind, .int .i64 h.n, .string h.text] 39)) := hz.alloc hz.size _
  have HX := hide (cut_any h.text cs n _ (hT.call hb) ht hs (by omega) (by omega))
  have HB := hide hb
  have HR : Hid (RowAt ((w.alloc (.cells #[.int .i64 0, .int .i64 0, .string ⟨#[]⟩] 39)).alloc (.cells #[.int .i64 h.kind, .int .i64 h.n, .string h.text] 39)) (w.heap.size + 1) 39 [.int .i64 h.kind, .int .i64 h.n, .string h.text]) := hide (by
    have := RowAt.new (w.alloc (.cells #[.int .i64 0, .int .i64 0, .string ⟨#[]⟩] 39)) 39 [.int .i64 h.kind, .int .i64 h.n, .string h.text]
    rw [size_alloc] at this
    exact this)
  have HZ : Hid (RowAt ((w.alloc (.cells #[.int .i64 0, .int .i64 0, .string ⟨#[]⟩] 39)).alloc (.cells #[.int .i64 h.kind, .int .i64 h.n, .string h.text] 39)) w.heap.size 39 [.int .i64 0, .int .i64 0, .string ⟨#[]⟩]) := hide ((RowAt.new w 39 [.int .i64 0, .int .i64 0, .string ⟨#[]⟩]).below ((Below.refl _ _).alloc (Nat.le_refl _) _) (by rw [size_alloc]; omega))
  have HG := hide f.row.lt
  have HF := hide f
  have hnn : ¬ h.n ≤ n := by omega
  obtain ⟨fs, hfs⟩ : ∃ x, h.text.extract 0 (placeOf cs (cutK n cs)) = x := ⟨_, rfl⟩
  obtain ⟨rs, hrs⟩ : ∃ x, h.text.extract (placeOf cs (cutK n cs)) h.text.size = x := ⟨_, rfl⟩
  have HE : Hid (frontPt h cs n = ⟨h.kind, n, fs⟩ ∧ restPt h cs n = ⟨h.kind, h.n - n, rs⟩) := hide ⟨by unfold frontPt; rw [hfs], by unfold restPt; rw [hrs]⟩
  rw [hfs, hrs] at HX
  rw [(unhide HE).1, (unhide HE).2]
  clear f hb hz fz hfs hrs hT ht hs HE
  go_enter Tryd.func83, Tryd.ntmps83
  go_wp2_with fail
  refine Calls.mono (unhide HX) ?_
  rintro r w2 ⟨rfl, hb2⟩
  have HB2 := hide ((unhide HB).trans (hb2.mono (unhide HB).size))
  have HR2 := hide ((unhide HR).below hb2 (unhide HR).lt)
  have HZ2 := hide ((unhide HZ).below hb2 (unhide HZ).lt)
  clear hb2 HX HR HZ HB c0 c1 c2
  have r0 : w2.cell? ⟨w.heap.size + 1, 0, none⟩ = some (.int .i64 h.kind) := (unhide HR2).cell 0
  have r1 : w2.cell? ⟨w.heap.size + 1, 1, none⟩ = some (.int .i64 h.n) := (unhide HR2).cell 1
  have r2 : w2.cell? ⟨w.heap.size + 1, 2, none⟩ = some (.string h.text) := (unhide HR2).cell 2
  have hf2 := (unhide HF).call (unhide HB2)
  have c1 : w2.cell? ⟨g, 1, none⟩ = some (.int .i64 h.n) := hf2.row.cell 1
  have c2 : w2.cell? ⟨g, 2, none⟩ = some (.string h.text) := hf2.row.cell 2
  have z1 : w2.frozen? ⟨g, 1, none⟩ = false := hf2.row.frozen 1
  have z2 : w2.frozen? ⟨g, 2, none⟩ = false := hf2.row.frozen 2
  clear hf2
  have q1 : ¬ g = w.heap.size + 1 := by have := unhide HG; omega
  have q2 : ¬ w.heap.size + 1 = g := by have := unhide HG; omega
  have q3 : ¬ g = w.heap.size := by have := unhide HG; omega
  have q4 : ¬ w.heap.size = g := by have := unhide HG; omega
  have y1 : w2.frozen? ⟨w.heap.size + 1, 1, none⟩ = false := (unhide HR2).frozen 1
  have y2 : w2.frozen? ⟨w.heap.size + 1, 2, none⟩ = false := (unhide HR2).frozen 2
  have v0 : w2.cell? ⟨w.heap.size, 0, none⟩ = some (.int .i64 0) := (unhide HZ2).cell 0
  have v1 : w2.cell? ⟨w.heap.size, 1, none⟩ = some (.int .i64 0) := (unhide HZ2).cell 1
  have v2 : w2.cell? ⟨w.heap.size, 2, none⟩ = some (.string ⟨#[]⟩) := (unhide HZ2).cell 2
  have u0 : w2.frozen? ⟨w.heap.size, 0, none⟩ = false := (unhide HZ2).frozen 0
  have u1 : w2.frozen? ⟨w.heap.size, 1, none⟩ = false := (unhide HZ2).frozen 1
  have u2 : w2.frozen? ⟨w.heap.size, 2, none⟩ = false := (unhide HZ2).frozen 2
  have HF2 := hide ((unhide HF).call (unhide HB2))
  have HFin : Hid (RowAt (((((((w2.setCell ⟨g, 1, none⟩ (.int .i64 (h.n - n))).setCell ⟨g, 2, none⟩ (.string rs)).setCell ⟨w.heap.size + 1, 1, none⟩ (.int .i64 n)).setCell ⟨w.heap.size + 1, 2, none⟩ (.string fs)).setCell ⟨w.heap.size, 0, none⟩ (.int .i64 h.kind)).setCell ⟨w.heap.size, 1, none⟩ (.int .i64 n)).setCell ⟨w.heap.size, 2, none⟩ (.string fs)) w.heap.size 39 [.int .i64 h.kind, .int .i64 n, .string fs] ∧ Fd (((((((w2.setCell ⟨g, 1, none⟩ (.int .i64 (h.n - n))).setCell ⟨g, 2, none⟩ (.string rs)).setCell ⟨w.heap.size + 1, 1, none⟩ (.int .i64 n)).setCell ⟨w.heap.size + 1, 2, none⟩ (.string fs)).setCell ⟨w.heap.size, 0, none⟩ (.int .i64 h.kind)).setCell ⟨w.heap.size, 1, none⟩ (.int .i64 n)).setCell ⟨w.heap.size, 2, none⟩ (.string fs)) g ⟨h.kind, h.n - n, rs⟩ a c l ∧ Only (fun k => k = g ∨ w.heap.size ≤ k) w2 (((((((w2.setCell ⟨g, 1, none⟩ (.int .i64 (h.n - n))).setCell ⟨g, 2, none⟩ (.string rs)).setCell ⟨w.heap.size + 1, 1, none⟩ (.int .i64 n)).setCell ⟨w.heap.size + 1, 2, none⟩ (.string fs)).setCell ⟨w.heap.size, 0, none⟩ (.int .i64 h.kind)).setCell ⟨w.heap.size, 1, none⟩ (.int .i64 n)).setCell ⟨w.heap.size, 2, none⟩ (.string fs))) := hide (by
    have o1 : Only (· = g) w2 ((w2.setCell ⟨g, 1, none⟩ (.int .i64 (h.n - n))).setCell ⟨g, 2, none⟩ (.string rs)) := ((Only.refl (· = g) w2).set g 1 _ rfl).set g 2 _ rfl
    have o2 : Only (w.heap.size ≤ ·) ((w2.setCell ⟨g, 1, none⟩ (.int .i64 (h.n - n))).setCell ⟨g, 2, none⟩ (.string rs)) (((((((w2.setCell ⟨g, 1, none⟩ (.int .i64 (h.n - n))).setCell ⟨g, 2, none⟩ (.string rs)).setCell ⟨w.heap.size + 1, 1, none⟩ (.int .i64 n)).setCell ⟨w.heap.size + 1, 2, none⟩ (.string fs)).setCell ⟨w.heap.size, 0, none⟩ (.int .i64 h.kind)).setCell ⟨w.heap.size, 1, none⟩ (.int .i64 n)).setCell ⟨w.heap.size, 2, none⟩ (.string fs)) := (((((Only.refl (w.heap.size ≤ ·) ((w2.setCell ⟨g, 1, none⟩ (.int .i64 (h.n - n))).setCell ⟨g, 2, none⟩ (.string rs))).set _ 1 _ (Nat.le_succ _)).set _ 2 _ (Nat.le_succ _)).set _ 0 _ (Nat.le_refl _)).set _ 1 _ (Nat.le_refl _)).set _ 2 _ (Nat.le_refl _)
    have o3 : Only (w.heap.size + 1 = ·) ((w2.setCell ⟨g, 1, none⟩ (.int .i64 (h.n - n))).setCell ⟨g, 2, none⟩ (.string rs)) ((((w2.setCell ⟨g, 1, none⟩ (.int .i64 (h.n - n))).setCell ⟨g, 2, none⟩ (.string rs)).setCell ⟨w.heap.size + 1, 1, none⟩ (.int .i64 n)).setCell ⟨w.heap.size + 1, 2, none⟩ (.string fs)) := ((Only.refl (w.heap.size + 1 = ·) ((w2.setCell ⟨g, 1, none⟩ (.int .i64 (h.n - n))).setCell ⟨g, 2, none⟩ (.string rs))).set _ 1 _ rfl).set _ 2 _ rfl
    refine ⟨?_, ?_, (o1.mono (fun _ h => .inl h)).trans (o2.mono (fun _ h => .inr h))⟩
    · have hz := ((unhide HZ2).only o1 (fun e => q4 e)).only o3 (by omega)
      exact (((hz.set 0 (.int .i64 h.kind)).set 1 (.int .i64 n)).set 2 (.string fs))
    · have hf2 := unhide HF2
      have hr1 : RowAt ((w2.setCell ⟨g, 1, none⟩ (.int .i64 (h.n - n))).setCell ⟨g, 2, none⟩ (.string rs)) g 129 [.int .i64 h.kind, .int .i64 (h.n - n), .string rs, .slice a l.length c] := (hf2.row.set 1 (.int .i64 (h.n - n))).set 2 (.string rs)
      refine ⟨hr1.only o2 (by have := unhide HG; omega), ?_, hf2.far, hf2.cap⟩
      have hp1 := hf2.pts.only o1 (fun b off e hb => hf2.far b off e hb)
      exact hp1.only o2 (fun b off e hb => by have := hB b off e; omega))
  clear HR2 HZ2 HF HF2
  simp only []
  repeat (first | (go_big_may; go_says fail) | go_values | go_skip | go_guarded | go_step | go_upon)
  clear q1 q2 q3 q4 r0 r1 r2 c1 c2 z1 z2 y1 y2 v0 v1 v2 u0 u1 u2
  obtain ⟨w5, hw5⟩ : ∃ w5, (((((((w2.setCell ⟨g, 1, none⟩ (.int .i64 (h.n - n))).setCell ⟨g, 2, none⟩ (.string rs)).setCell ⟨w.heap.size + 1, 1, none⟩ (.int .i64 n)).setCell ⟨w.heap.size + 1, 2, none⟩ (.string fs)).setCell ⟨w.heap.size, 0, none⟩ (.int .i64 h.kind)).setCell ⟨w.heap.size, 1, none⟩ (.int .i64 n)).setCell ⟨w.heap.size, 2, none⟩ (.string fs)) = w5 := ⟨_, rfl⟩
  rw [hw5] at HFin ⊢
  clear hw5
  obtain ⟨hr, hf, ho⟩ := unhide HFin
  have f0 : w5.cell? ⟨w.heap.size, 0, none⟩ = some (.int .i64 h.kind) := hr.cell 0
  have f1 : w5.cell? ⟨w.heap.size, 1, none⟩ = some (.int .i64 n) := hr.cell 1
  have f2 : w5.cell? ⟨w.heap.size, 2, none⟩ = some (.string fs) := hr.cell 2
  refine bodyPost_ret (v := pv ⟨h.kind, n, fs⟩) (by simp [results, Tryd.results83, go_sem, f0, f1, f2, pv]) rfl ?_
  refine ⟨rfl, ⟨a, c, hf, hB⟩, (Only.of_below (unhide HB2)).next ho (fun k hk => ?_)⟩
  rcases hk with rfl | hk
  · exact .inl rfl
  · exact .inr hk
end Go.Proofs.YtonabfpgdgnpnaaDoor
