/- What an edit weighs, as two numbers in a row. -/
import Derived.Test.YtidblnjohkadhaaDoorWei0
namespace Go.Proofs.YtidblnjohkadhaaDoor
set_option linter.unusedVariables false
set_option linter.unusedSimpArgs false
open Go.ChangeShapes Go.WideShapes Go.ChangeAt Go.RowKit Go.Joins Go.Deep

theorem wfold : ∀ (l : List Pt) (a b : Int), (∀ p ∈ l, Fit1 p) → l.foldl wStep (some (a, b)) = some (a + (At.putsN (atomsL l) : Int), b + (At.dropsN (atomsL l) : Int))
  | [], a, b, _ => by simp [atomsL, At.putsN, At.dropsN]
  | p :: l, a, b, h => by
    have hp := h p (List.mem_cons_self ..)
    have ih := fun a b => wfold l a b (fun q hq => h q (List.mem_cons_of_mem _ hq))
    have hf : fitsB p = true := fits_of_good hp.1 hp.2
    have hn := hp.1.1
    rw [List.foldl_cons]
    have hs : wStep (some (a, b)) p = some (if p.kind = 2 then a + p.n else a, if p.kind = 3 then b + p.n else b) := by simp [wStep, hf]
    rw [hs, ih, atomsL, At.puts_app, At.drops_app]
    rcases hp.1.cases with ⟨k, _, ea⟩ | ⟨k, _, ea⟩ | ⟨k, cs, h3, h4, ea⟩
    · rw [ea, puts_rep_k, drops_rep_k, if_neg (by omega), if_neg (by omega)]
      simp
    · rw [ea, puts_rep_d, drops_rep_d, if_neg (by omega), if_pos k]
      simp only [Option.some.injEq, Prod.mk.injEq]
      constructor
      · push_cast; omega
      · push_cast; omega
    · rw [ea, puts_map, drops_map, if_pos k, if_neg (by omega)]
      simp only [Option.some.injEq, Prod.mk.injEq]
      constructor
      · push_cast; omega
      · push_cast; omega
theorem ed_wVal {l : List Pt} {f t : Nat} (h : IsEd l f t) : wVal l = .tuple #[.int .i64 (At.putsN (atomsL l) : Int), .int .i64 (At.dropsN (atomsL l) : Int)] := by
  have := wfold l 0 0 (ed_fit h)
  unfold wVal wL
  rw [this]
  simp
set_option maxRecDepth 100000 in
set_option maxHeartbeats 4000000 in
theorem weightOf_any (a : Option Addr) (l : List Pt) (c : Nat) (x y : Int) (w : World) (hT : UT w) (hp : PtsAt w a l) (hc : l.length ≤ 4000) (hs : ∀ p ∈ l, p.text.size ≤ 281474976710656) (hz : wVal l = .tuple #[.int .i64 x, .int .i64 y]) :
    Calls Tryd.prog 51 #[.slice a l.length c] w fun r w' => r = .returned (.agg #[.int .i64 x, .int .i64 y]) ∧ Below w.heap.size w w' := by
  have hbA : Below w.heap.size w (w.alloc (.cells #[.int .i64 0, .int .i64 0] 55)) := (Below.refl _ _).alloc (Nat.le_refl _) _
  have HW := hide (weight_any a l c _ (hT.call hbA) (hp.call hbA) hc hs)
  rw [hz] at HW
  have HRW := hide (RowAt.new w 55 [.int .i64 0, .int .i64 0])
  have HBA := hide hbA
  obtain ⟨n, hn⟩ : ∃ n, l.length = n := ⟨_, rfl⟩
  rw [hn] at HW ⊢
  clear hT hp hc hs hz hbA hn
  go_enter Tryd.func51, Tryd.ntmps51
  go_wp2_with fail
  obtain ⟨wA, hA⟩ : ∃ z, w.alloc (.cells #[.int .i64 0, .int .i64 0] 55) = z := ⟨_, rfl⟩
  rw [hA] at HW HRW HBA ⊢
  clear hA
  refine Calls.mono (unhide HW) ?_
  rintro r w2 ⟨rfl, hb2⟩
  have HB2 := hide ((unhide HBA).trans (hb2.mono (unhide HBA).size))
  have HR2 := hide ((unhide HRW).below hb2 (unhide HRW).lt)
  clear hb2 HBA HRW HW
  obtain ⟨g, hg⟩ : ∃ z, w.heap.size = z := ⟨_, rfl⟩
  rw [hg] at HR2 ⊢
  have HG := hide hg
  clear hg
  have r0 : w2.cell? ⟨g, 0, none⟩ = some (.int .i64 0) := (unhide HR2).cell 0
  have r1 : w2.cell? ⟨g, 1, none⟩ = some (.int .i64 0) := (unhide HR2).cell 1
  have fr0 : w2.frozen? ⟨g, 0, none⟩ = false := (unhide HR2).frozen _
  have fr1 : w2.frozen? ⟨g, 1, none⟩ = false := (unhide HR2).frozen _
  go_wp2_with fail
  have hfin := ((unhide HR2).set 0 (.int .i64 x)).set 1 (.int .i64 y)
  have hbf : Below w.heap.size w ((w2.setCell ⟨g, 0, none⟩ (.int .i64 x)).setCell ⟨g, 1, none⟩ (.int .i64 y)) := ((unhide HB2).setCell (p := ⟨g, 0, none⟩) (Nat.le_of_eq (unhide HG)) _).setCell (p := ⟨g, 1, none⟩) (Nat.le_of_eq (unhide HG)) _
  obtain ⟨w5, hw5⟩ : ∃ z, ((w2.setCell ⟨g, 0, none⟩ (.int .i64 x)).setCell ⟨g, 1, none⟩ (.int .i64 y)) = z := ⟨_, rfl⟩
  rw [hw5] at hfin hbf ⊢
  clear hw5 r0 r1 fr0 fr1
  have f0 : w5.cell? ⟨g, 0, none⟩ = some (.int .i64 x) := hfin.cell 0
  have f1 : w5.cell? ⟨g, 1, none⟩ = some (.int .i64 y) := hfin.cell 1
  refine bodyPost_ret (v := .agg #[.int .i64 x, .int .i64 y]) (by simp [results, Tryd.results51, go_sem, f0, f1]) rfl ?_
  exact ⟨rfl, hbf⟩
theorem weightOf_at {w W : World} {a : Option Addr} {l : List Pt} {c n f t : Nat} (hU : UT W) (ha : Edit W a l c) (hn : l.length = n) (hl : l.length ≤ 4000) (hd : IsEd l f t) (hb : Below w.heap.size w W) :
    Calls Tryd.prog 51 #[.slice a n c] W fun r w' => r = .returned (.agg #[.int .i64 (At.putsN (atomsL l) : Int), .int .i64 (At.dropsN (atomsL l) : Int)]) ∧ Below w.heap.size w w' := by
  subst hn
  refine Calls.mono (weightOf_any a l c _ _ W hU ha.pts hl ha.txt2 (ed_wVal hd)) ?_
  rintro r w' ⟨rfl, h⟩
  exact ⟨rfl, hb.trans (h.mono hb.size)⟩
end Go.Proofs.YtidblnjohkadhaaDoor
