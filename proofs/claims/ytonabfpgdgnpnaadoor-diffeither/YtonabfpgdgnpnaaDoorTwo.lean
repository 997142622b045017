/- Pieces of edits, by single steps: take, whole, both. -/
import Derived.Test.YtonabfpgdgnpnaaDoorPrn
import Derived.Test.YtonabfpgdgnpnaaDoorTkp
namespace Go.Proofs.YtonabfpgdgnpnaaDoor
set_option linter.unusedVariables false
set_option linter.unusedSimpArgs false
open Go.ChangeShapes Go.WideShapes Go.ChangeAt Go.RowKit Go.Joins Go.Deep

/-- parts that fit -/
def Fit1 (p : Pt) : Prop := Good p ∧ p.n ≤ 1099511627776
theorem Good.text {h : Pt} (hg : Good h) : ∃ cs, Tx h.text cs ∧ (h.kind = 2 → (cs.length : Int) = h.n) ∧ (h.kind ≠ 2 → cs = []) := by
  rcases hg.cases with ⟨k, t, _⟩ | ⟨k, t, _⟩ | ⟨k, cs, h3, h4, _⟩
  · exact ⟨[], by rw [t]; exact ⟨Cps.nil, rfl⟩, fun e => by omega, fun _ => rfl⟩
  · exact ⟨[], by rw [t]; exact ⟨Cps.nil, rfl⟩, fun e => by omega, fun _ => rfl⟩
  · exact ⟨cs, h3, fun _ => h4, fun e => absurd k e⟩
theorem tx_nil {s : ByteArray} (h : Tx s []) : s = ByteArray.empty := ByteArray.ext (Array.toList_inj.1 (by rw [h.eq]; rfl))
theorem front_ok {h : Pt} (hg : Good h) {cs : List (List UInt8)} (ht : Tx h.text cs) {n : Int} (h1 : 1 ≤ n) (h2 : n < h.n) : Good (frontPt h cs n) ∧ atoms (frontPt h cs n) = (atoms h).take n.toNat ∧ Good (restPt h cs n) ∧ atoms (restPt h cs n) = (atoms h).drop n.toNat := by
  have hf := ht.front (cutK n cs)
  have hb := ht.back (cutK n cs)
  rcases hg.cases with ⟨k, t, e⟩ | ⟨k, t, e⟩ | ⟨k, ds, h3, h4, e⟩
  · have hc : cs = [] := ht.inj (by rw [t]; exact ⟨Cps.nil, rfl⟩)
    subst hc
    have e1 : (frontPt h [] n).text = ByteArray.empty := tx_nil (by simpa [frontPt] using hf)
    have e2 : (restPt h [] n).text = ByteArray.empty := tx_nil (by simpa [restPt] using hb)
    have a1 : atoms (frontPt h [] n) = List.replicate n.toNat .k := by unfold atoms frontPt; simp only; rw [if_pos k]
    have a2 : atoms (restPt h [] n) = List.replicate (h.n - n).toNat .k := by unfold atoms restPt; simp only; rw [if_pos k]
    refine ⟨⟨h1, .inl ⟨k, e1⟩⟩, ?_, ⟨by show 1 ≤ h.n - n; omega, .inl ⟨k, e2⟩⟩, ?_⟩
    · rw [a1, e, List.take_replicate]; congr 1; omega
    · rw [a2, e, List.drop_replicate]; congr 1; omega
  · have hc : cs = [] := ht.inj (by rw [t]; exact ⟨Cps.nil, rfl⟩)
    subst hc
    have e1 : (frontPt h [] n).text = ByteArray.empty := tx_nil (by simpa [frontPt] using hf)
    have e2 : (restPt h [] n).text = ByteArray.empty := tx_nil (by simpa [restPt] using hb)
    have a1 : atoms (frontPt h [] n) = List.replicate n.toNat .d := by unfold atoms frontPt; simp only; rw [if_neg (by omega), if_pos k]
    have a2 : atoms (restPt h [] n) = List.replicate (h.n - n).toNat .d := by unfold atoms restPt; simp only; rw [if_neg (by omega), if_pos k]
    refine ⟨⟨h1, .inr (.inl ⟨k, e1⟩)⟩, ?_, ⟨by show 1 ≤ h.n - n; omega, .inr (.inl ⟨k, e2⟩)⟩, ?_⟩
    · rw [a1, e, List.take_replicate]; congr 1; omega
    · rw [a2, e, List.drop_replicate]; congr 1; omega
  · obtain rfl : cs = ds := ht.inj h3
    have hK : cutK n cs = n.toNat := by unfold cutK; omega
    rw [hK] at hf hb
    have a1 : atoms (frontPt h cs n) = (cs.take n.toNat).map .p := by unfold frontPt; rw [hK]; unfold atoms; simp only; rw [if_neg (by omega), if_neg (by omega), cpsOf_eq hf]
    have a2 : atoms (restPt h cs n) = (cs.drop n.toNat).map .p := by unfold restPt; rw [hK]; unfold atoms; simp only; rw [if_neg (by omega), if_neg (by omega), cpsOf_eq hb]
    refine ⟨⟨h1, .inr (.inr ⟨k, _, by unfold frontPt; rw [hK]; exact hf, ?_⟩)⟩, ?_, ⟨by show 1 ≤ h.n - n; omega, .inr (.inr ⟨k, _, by unfold restPt; rw [hK]; exact hb, ?_⟩)⟩, ?_⟩
    · rw [List.length_take]; show _ = n; omega
    · rw [a1, e, List.map_take]
    · rw [List.length_drop]; show _ = h.n - n; omega
    · rw [a2, e, List.map_drop]
/-- a feed of parts that fit -/
structure Fa (w : World) (g B : Nat) (l : List Pt) : Prop where
  feed : Feed w g B l
  good : ∀ p ∈ l, Fit1 p
  sz : B ≤ w.heap.size
theorem Fa.keep {w w' : World} {g B : Nat} {l : List Pt} (h : Fa w g B l) {p : Nat → Prop} (ho : Only p w w') (hg : ¬ p g) (hp : ∀ k, p k → B ≤ k) : Fa w' g B l :=
  ⟨h.feed.keep ho hg hp, h.good, Nat.le_trans h.sz ho.size⟩
theorem Fa.lt {w : World} {g B : Nat} {l : List Pt} (h : Fa w g B l) : g < w.heap.size := by
  obtain ⟨a, c, f, _⟩ := h.feed
  exact f.row.lt
theorem Fa.call {w w' : World} {g B : Nat} {l : List Pt} (h : Fa w g B l) (hb : Below w.heap.size w w') : Fa w' g B l := by
  obtain ⟨a, c, f, hB⟩ := h.feed
  exact ⟨⟨a, c, f.call hb, hB⟩, h.good, Nat.le_trans h.sz hb.size⟩
/-- a piece that was taken of a part -/
structure Pc (h p : Pt) (l l' : List Pt) (m : Nat) : Prop where
  good : Fit1 p
  kind : p.kind = h.kind
  num : (p.n : Int) = m
  at_ : atoms p = (atoms h).take m
  rest : atomsL l' = (atoms h).drop m ++ atomsL l
  len : l'.length ≤ l.length + 1
  all : h.n ≤ (m : Int) → l'.length = l.length
theorem take_any {w : World} {g B : Nat} {h : Pt} {l : List Pt} (f : Fa w g B (h :: l)) (hT : UT w) {n : Int} (h1 : 1 ≤ n) (h2 : n ≤ 1099511627776) :
    Calls Tryd.prog 83 #[.pointer (some ⟨g, 0, none⟩), .int .i64 n] w fun r w' => ∃ p l', r = .returned (pv p) ∧ Pc h p l l' (min n h.n).toNat ∧ Fa w' g B l' ∧ Only (· = g) w w' := by
  obtain ⟨a, c, fd, hB⟩ := f.feed
  change Fd w g h a c l at fd
  have hg := f.good h (List.mem_cons_self ..)
  have hgl : ∀ p ∈ l, Fit1 p := fun p hp => f.good p (List.mem_cons_of_mem _ hp)
  have hn1 := hg.1.1
  by_cases hn : h.n ≤ n
  · refine Calls.mono (take_all fd hB f.sz n hn) ?_
    rintro r w' ⟨rfl, hf, ho⟩
    have hm : (min n h.n).toNat = (atoms h).length := by rw [hg.1.len.2]; omega
    have hnum : h.n = ((min n h.n).toNat : Int) := by omega
    refine ⟨h, l, rfl, ⟨hg, rfl, hnum, by rw [hm, List.take_of_length_le (Nat.le_refl _)], by rw [hm, List.drop_of_length_le (Nat.le_refl _)]; rfl, Nat.le_succ _, fun _ => rfl⟩, ⟨hf, hgl, Nat.le_trans f.sz ho.size⟩, ho⟩
  · obtain ⟨cs, hcs, _, _⟩ := hg.1.text
    have hsz : h.text.size ≤ 281474976710656 := by have := hg.1.size; have := hg.2; omega
    refine Calls.mono (take_part fd hB f.sz hT hcs hsz n (by omega) (by omega) hg.2) ?_
    rintro r w' ⟨rfl, hf, ho⟩
    obtain ⟨g1, g2, g3, g4⟩ := front_ok hg.1 hcs h1 (by omega)
    have hm : (min n h.n).toNat = n.toNat := by omega
    rw [hm]
    refine ⟨_, _, rfl, ⟨⟨g1, h2⟩, rfl, ?_, g2, by rw [atomsL, g4], by simp, fun e => by omega⟩, ⟨hf, fun p hp => ?_, Nat.le_trans f.sz ho.size⟩, ho⟩
    · show n = _; omega
    · rcases List.mem_cons.1 hp with rfl | hp
      · exact ⟨g3, by show h.n - n ≤ _; have := hg.2; omega⟩
      · exact hgl p hp
set_option maxRecDepth 100000 in
set_option maxHeartbeats 4000000 in
theorem whole_any {w : World} {g B : Nat} {h : Pt} {l : List Pt} (f : Fa w g B (h :: l)) (hT : UT w) :
    Calls Tryd.prog 65 #[.pointer (some ⟨g, 0, none⟩)] w fun r w' => r = .returned (pv h) ∧ Fa w' g B l ∧ Only (· = g) w w' := by
  have hz : Below w.heap.size w (w.alloc (.cells #[.int .i64 0, .int .i64 0, .string ⟨#[]⟩] 39)) := (Below.refl _ _).alloc (Nat.le_refl _) _
  have hg := f.good h (List.mem_cons_self ..)
  have hgl : ∀ p ∈ l, Fit1 p := fun p hp => f.good p (List.mem_cons_of_mem _ hp)
  obtain ⟨a, c, fd, hB⟩ := f.feed
  have fz := fd.call hz
  have c1 : (w.alloc (.cells #[.int .i64 0, .int .i64 0, .string ⟨#[]⟩] 39)).cell? ⟨g, 1, none⟩ = some (.int .i64 h.n) := fz.row.cell 1
  have HX := hide (take_all fz hB (Nat.le_trans f.sz hz.size) h.n (Int.le_refl _))
  have HR : Hid (RowAt (w.alloc (.cells #[.int .i64 0, .int .i64 0, .string ⟨#[]⟩] 39)) w.heap.size 39 [.int .i64 0, .int .i64 0, .string ⟨#[]⟩]) := hide (RowAt.new w 39 _)
  have HG := hide fd.row.lt
  have HS := hide f.sz
  have HZ := hide hz
  have HL := hide hgl
  clear f fd fz hz hgl hg hB hT
  go_enter Tryd.func65, Tryd.ntmps65
  go_wp2_with fail
  refine Calls.mono (unhide HX) ?_
  rintro r w2 ⟨rfl, hf, ho⟩
  have hr2 := (unhide HR).only ho (by have := unhide HG; omega)
  have q0 : w2.cell? ⟨w.heap.size, 0, none⟩ = some (.int .i64 0) := hr2.cell 0
  have q1 : w2.cell? ⟨w.heap.size, 1, none⟩ = some (.int .i64 0) := hr2.cell 1
  have q2 : w2.cell? ⟨w.heap.size, 2, none⟩ = some (.string ⟨#[]⟩) := hr2.cell 2
  have z0 : w2.frozen? ⟨w.heap.size, 0, none⟩ = false := hr2.frozen 0
  have z1 : w2.frozen? ⟨w.heap.size, 1, none⟩ = false := hr2.frozen 1
  have z2 : w2.frozen? ⟨w.heap.size, 2, none⟩ = false := hr2.frozen 2
  have HF := hide hf
  have HO := hide ((Only.of_below (unhide HZ)).trans ho)
  have HFIN := hide (((hr2.set 0 (.int .i64 h.kind)).set 1 (.int .i64 h.n)).set 2 (.string h.text))
  have HON := hide ((((Only.refl (· = w.heap.size) w2).set _ 0 (.int .i64 h.kind) rfl).set _ 1 (.int .i64 h.n) rfl).set _ 2 (.string h.text) rfl)
  clear hf ho hr2 HX HR c1
  unfold pv
  simp only []
  repeat (first | (go_big_may; go_says fail) | go_values | go_skip | go_guarded | go_step | go_upon)
  clear q0 q1 q2 z0 z1 z2
  obtain ⟨w5, hw5⟩ : ∃ w5, (((w2.setCell ⟨w.heap.size, 0, none⟩ (.int .i64 h.kind)).setCell ⟨w.heap.size, 1, none⟩ (.int .i64 h.n)).setCell ⟨w.heap.size, 2, none⟩ (.string h.text)) = w5 := ⟨_, rfl⟩
  rw [hw5] at HFIN HON ⊢
  clear hw5
  have f0 : w5.cell? ⟨w.heap.size, 0, none⟩ = some (.int .i64 h.kind) := (unhide HFIN).cell 0
  have f1 : w5.cell? ⟨w.heap.size, 1, none⟩ = some (.int .i64 h.n) := (unhide HFIN).cell 1
  have f2 : w5.cell? ⟨w.heap.size, 2, none⟩ = some (.string h.text) := (unhide HFIN).cell 2
  refine bodyPost_ret (v := pv h) (by simp [results, Tryd.results65, go_sem, f0, f1, f2, pv]) rfl ?_
  exact ⟨rfl, ⟨(unhide HF).keep (unhide HON) (by have := unhide HG; omega) (fun k hk => by have := unhide HS; omega), unhide HL, Nat.le_trans (unhide HS) (Nat.le_trans (unhide HO).size (unhide HON).size)⟩, (unhide HO).next (unhide HON) (fun k hk => .inr (by omega))⟩
end Go.Proofs.YtonabfpgdgnpnaaDoor
