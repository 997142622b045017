/- FrameBack: the walk. -/
import Derived.Test.YtbnfilhilgjnfaaDoorGRb
namespace Go.Proofs.YtbnfilhilgjnfaaDoor
set_option linter.unusedVariables false
set_option linter.unusedSimpArgs false
set_option maxRecDepth 100000
open Go.ChangeShapes Go.WideShapes Go.ChangeAt Go.RowKit Go.Joins

namespace Ed
open Go.Deep
set_option maxRecDepth 100000 in
set_option maxHeartbeats 4000000 in
theorem rsame_true (a b : Option Addr) (l : List Pt) (ca cb n : Nat) (w : World) (ha : PtsAt w a l) (hb : PtsAt w b l) (hn : l.length = n) (hc : n ≤ maxLen) :
    Calls Tryd.prog 42 #[.slice a n ca, .slice b n cb] w fun r w' => r = .returned (.bool true) ∧ Below w.heap.size w w' := by
  have HA := hide ha
  have HB := hide hb
  have HN := hide hn
  have nI : (n : Int) ≤ 9223372036854775807 := by unfold maxLen at hc; omega
  clear ha hb hn
  go_enter Tryd.func42, Tryd.ntmps42
  go_wp2_with fail
  go_loopw [13] (fun i wr => ∃ k : Nat, k ≤ n ∧ i = .int .i64 (k : Int) ∧ Hid (Below w.heap.size w wr)) (fun i _ => ((n : Int) - intOf i).toNat)
  case atStart => exact ⟨0, by omega, by simp, hide (Below.refl _ _)⟩
  case round =>
    obtain ⟨k, hk, rfl, HBW⟩ := hrel
    by_cases hlt : k < n
    · have kI : (k : Int) < (n : Int) := by omega
      obtain ⟨p, hpk⟩ : ∃ p, l[k]? = some p := ⟨_, List.getElem?_eq_getElem (by have := unhide HN; omega)⟩
      obtain ⟨b1, o1, rfl, e0, e1, e2⟩ := (unhide HA).at_ (unhide HBW) hpk
      obtain ⟨b2, o2, rfl, f0, f1, f2⟩ := (unhide HB).at_ (unhide HBW) hpk
      clear hpk
      go_wp2_with fail
      go_quiet (fail)
      have HBW2 := hide ((unhide HBW).trans ((Joins.below_draws _ _ nq).mono (unhide HBW).size))
      clear HBW
      go_wp2_with fail
      exact ⟨⟨k + 1, by omega, by simp, HBW2⟩, by simp [intOf]; omega⟩
    · obtain rfl : n = k := by omega
      have kI : ¬ (n : Int) < (n : Int) := by omega
      go_wp2_with fail
      go_ret
      exact ⟨rfl, unhide HBW⟩
end Ed
set_option maxHeartbeats 4000000 in
theorem same_any (k x0 x1 x2 x3 x4 x5 x6 : Int) (a a2 : Option Addr) (l : List Ed.Pt) (n ca cb : Nat) (w : World) (h1 : Ed.PtsAt w a l) (h2 : Ed.PtsAt w a2 l) (hn : l.length = n) (hc : n ≤ maxLen) :
    Calls Tryd.prog 20 #[msgV k x0 x1 x2 x3 x4 x5 x6 (.slice a n ca), msgV k x0 x1 x2 x3 x4 x5 x6 (.slice a2 n cb)] w fun r w' => r = .returned (.bool true) ∧ Below w.heap.size w w' := by
  have b1 : Below w.heap.size w (w.alloc (.cells #[.int .i64 k, .int .i64 x0, .int .i64 x1, .int .i64 x2, .int .i64 x3, .int .i64 x4, .int .i64 x5, .int .i64 x6, .slice a n ca] 25)) := (Below.refl _ _).alloc (Nat.le_refl _) _
  have b2 : Below (w.alloc (.cells #[.int .i64 k, .int .i64 x0, .int .i64 x1, .int .i64 x2, .int .i64 x3, .int .i64 x4, .int .i64 x5, .int .i64 x6, .slice a n ca] 25)).heap.size (w.alloc (.cells #[.int .i64 k, .int .i64 x0, .int .i64 x1, .int .i64 x2, .int .i64 x3, .int .i64 x4, .int .i64 x5, .int .i64 x6, .slice a n ca] 25)) ((w.alloc (.cells #[.int .i64 k, .int .i64 x0, .int .i64 x1, .int .i64 x2, .int .i64 x3, .int .i64 x4, .int .i64 x5, .int .i64 x6, .slice a n ca] 25)).alloc (.cells #[.int .i64 k, .int .i64 x0, .int .i64 x1, .int .i64 x2, .int .i64 x3, .int .i64 x4, .int .i64 x5, .int .i64 x6, .slice a2 n cb] 25)) := (Below.refl _ _).alloc (Nat.le_refl _) _
  have HR1 := hide ((RowAt.new w 25 [.int .i64 k, .int .i64 x0, .int .i64 x1, .int .i64 x2, .int .i64 x3, .int .i64 x4, .int .i64 x5, .int .i64 x6, .slice a n ca]).below b2 (RowAt.new w 25 [.int .i64 k, .int .i64 x0, .int .i64 x1, .int .i64 x2, .int .i64 x3, .int .i64 x4, .int .i64 x5, .int .i64 x6, .slice a n ca]).lt)
  have HR2 := hide (RowAt.new (w.alloc (.cells #[.int .i64 k, .int .i64 x0, .int .i64 x1, .int .i64 x2, .int .i64 x3, .int .i64 x4, .int .i64 x5, .int .i64 x6, .slice a n ca] 25)) 25 [.int .i64 k, .int .i64 x0, .int .i64 x1, .int .i64 x2, .int .i64 x3, .int .i64 x4, .int .i64 x5, .int .i64 x6, .slice a2 n cb])
  rw [show (w.alloc (.cells #[.int .i64 k, .int .i64 x0, .int .i64 x1, .int .i64 x2, .int .i64 x3, .int .i64 x4, .int .i64 x5, .int .i64 x6, .slice a n ca] 25)).heap.size = w.heap.size + 1 by simp] at HR2
  have HB2 := hide (b1.trans (b2.mono b1.size))
  have HSM := hide (Ed.rsame_true a a2 l ca cb n _ (h1.call (unhide HB2)) (h2.call (unhide HB2)) hn hc)
  clear b1 b2 h1 h2 hn
  have c0 : ((w.alloc (.cells #[.int .i64 k, .int .i64 x0, .int .i64 x1, .int .i64 x2, .int .i64 x3, .int .i64 x4, .int .i64 x5, .int .i64 x6, .slice a n ca] 25)).alloc (.cells #[.int .i64 k, .int .i64 x0, .int .i64 x1, .int .i64 x2, .int .i64 x3, .int .i64 x4, .int .i64 x5, .int .i64 x6, .slice a2 n cb] 25)).cell? ⟨w.heap.size, 0, none⟩ = some (.int .i64 k) := (unhide HR1).cell 0
  have c1 : ((w.alloc (.cells #[.int .i64 k, .int .i64 x0, .int .i64 x1, .int .i64 x2, .int .i64 x3, .int .i64 x4, .int .i64 x5, .int .i64 x6, .slice a n ca] 25)).alloc (.cells #[.int .i64 k, .int .i64 x0, .int .i64 x1, .int .i64 x2, .int .i64 x3, .int .i64 x4, .int .i64 x5, .int .i64 x6, .slice a2 n cb] 25)).cell? ⟨w.heap.size, 1, none⟩ = some (.int .i64 x0) := (unhide HR1).cell 1
  have c2 : ((w.alloc (.cells #[.int .i64 k, .int .i64 x0, .int .i64 x1, .int .i64 x2, .int .i64 x3, .int .i64 x4, .int .i64 x5, .int .i64 x6, .slice a n ca] 25)).alloc (.cells #[.int .i64 k, .int .i64 x0, .int .i64 x1, .int .i64 x2, .int .i64 x3, .int .i64 x4, .int .i64 x5, .int .i64 x6, .slice a2 n cb] 25)).cell? ⟨w.heap.size, 2, none⟩ = some (.int .i64 x1) := (unhide HR1).cell 2
  have c3 : ((w.alloc (.cells #[.int .i64 k, .int .i64 x0, .int .i64 x1, .int .i64 x2, .int .i64 x3, .int .i64 x4, .int .i64 x5, .int .i64 x6, .slice a n ca] 25)).alloc (.cells #[.int .i64 k, .int .i64 x0, .int .i64 x1, .int .i64 x2, .int .i64 x3, .int .i64 x4, .int .i64 x5, .int .i64 x6, .slice a2 n cb] 25)).cell? ⟨w.heap.size, 3, none⟩ = some (.int .i64 x2) := (unhide HR1).cell 3
  have c4 : ((w.alloc (.cells #[.int .i64 k, .int .i64 x0, .int .i64 x1, .int .i64 x2, .int .i64 x3, .int .i64 x4, .int .i64 x5, .int .i64 x6, .slice a n ca] 25)).alloc (.cells #[.int .i64 k, .int .i64 x0, .int .i64 x1, .int .i64 x2, .int .i64 x3, .int .i64 x4, .int .i64 x5, .int .i64 x6, .slice a2 n cb] 25)).cell? ⟨w.heap.size, 4, none⟩ = some (.int .i64 x3) := (unhide HR1).cell 4
  have c5 : ((w.alloc (.cells #[.int .i64 k, .int .i64 x0, .int .i64 x1, .int .i64 x2, .int .i64 x3, .int .i64 x4, .int .i64 x5, .int .i64 x6, .slice a n ca] 25)).alloc (.cells #[.int .i64 k, .int .i64 x0, .int .i64 x1, .int .i64 x2, .int .i64 x3, .int .i64 x4, .int .i64 x5, .int .i64 x6, .slice a2 n cb] 25)).cell? ⟨w.heap.size, 5, none⟩ = some (.int .i64 x4) := (unhide HR1).cell 5
  have c6 : ((w.alloc (.cells #[.int .i64 k, .int .i64 x0, .int .i64 x1, .int .i64 x2, .int .i64 x3, .int .i64 x4, .int .i64 x5, .int .i64 x6, .slice a n ca] 25)).alloc (.cells #[.int .i64 k, .int .i64 x0, .int .i64 x1, .int .i64 x2, .int .i64 x3, .int .i64 x4, .int .i64 x5, .int .i64 x6, .slice a2 n cb] 25)).cell? ⟨w.heap.size, 6, none⟩ = some (.int .i64 x5) := (unhide HR1).cell 6
  have c7 : ((w.alloc (.cells #[.int .i64 k, .int .i64 x0, .int .i64 x1, .int .i64 x2, .int .i64 x3, .int .i64 x4, .int .i64 x5, .int .i64 x6, .slice a n ca] 25)).alloc (.cells #[.int .i64 k, .int .i64 x0, .int .i64 x1, .int .i64 x2, .int .i64 x3, .int .i64 x4, .int .i64 x5, .int .i64 x6, .slice a2 n cb] 25)).cell? ⟨w.heap.size, 7, none⟩ = some (.int .i64 x6) := (unhide HR1).cell 7
  have c8 : ((w.alloc (.cells #[.int .i64 k, .int .i64 x0, .int .i64 x1, .int .i64 x2, .int .i64 x3, .int .i64 x4, .int .i64 x5, .int .i64 x6, .slice a n ca] 25)).alloc (.cells #[.int .i64 k, .int .i64 x0, .int .i64 x1, .int .i64 x2, .int .i64 x3, .int .i64 x4, .int .i64 x5, .int .i64 x6, .slice a2 n cb] 25)).cell? ⟨w.heap.size, 8, none⟩ = some (.slice a n ca) := (unhide HR1).cell 8
  have d0 : ((w.alloc (.cells #[.int .i64 k, .int .i64 x0, .int .i64 x1, .int .i64 x2, .int .i64 x3, .int .i64 x4, .int .i64 x5, .int .i64 x6, .slice a n ca] 25)).alloc (.cells #[.int .i64 k, .int .i64 x0, .int .i64 x1, .int .i64 x2, .int .i64 x3, .int .i64 x4, .int .i64 x5, .int .i64 x6, .slice a2 n cb] 25)).cell? ⟨w.heap.size + 1, 0, none⟩ = some (.int .i64 k) := (unhide HR2).cell 0
  have d1 : ((w.alloc (.cells #[.int .i64 k, .int .i64 x0, .int .i64 x1, .int .i64 x2, .int .i64 x3, .int .i64 x4, .int .i64 x5, .int .i64 x6, .slice a n ca] 25)).alloc (.cells #[.int .i64 k, .int .i64 x0, .int .i64 x1, .int .i64 x2, .int .i64 x3, .int .i64 x4, .int .i64 x5, .int .i64 x6, .slice a2 n cb] 25)).cell? ⟨w.heap.size + 1, 1, none⟩ = some (.int .i64 x0) := (unhide HR2).cell 1
  have d2 : ((w.alloc (.cells #[.int .i64 k, .int .i64 x0, .int .i64 x1, .int .i64 x2, .int .i64 x3, .int .i64 x4, .int .i64 x5, .int .i64 x6, .slice a n ca] 25)).alloc (.cells #[.int .i64 k, .int .i64 x0, .int .i64 x1, .int .i64 x2, .int .i64 x3, .int .i64 x4, .int .i64 x5, .int .i64 x6, .slice a2 n cb] 25)).cell? ⟨w.heap.size + 1, 2, none⟩ = some (.int .i64 x1) := (unhide HR2).cell 2
  have d3 : ((w.alloc (.cells #[.int .i64 k, .int .i64 x0, .int .i64 x1, .int .i64 x2, .int .i64 x3, .int .i64 x4, .int .i64 x5, .int .i64 x6, .slice a n ca] 25)).alloc (.cells #[.int .i64 k, .int .i64 x0, .int .i64 x1, .int .i64 x2, .int .i64 x3, .int .i64 x4, .int .i64 x5, .int .i64 x6, .slice a2 n cb] 25)).cell? ⟨w.heap.size + 1, 3, none⟩ = some (.int .i64 x2) := (unhide HR2).cell 3
  have d4 : ((w.alloc (.cells #[.int .i64 k, .int .i64 x0, .int .i64 x1, .int .i64 x2, .int .i64 x3, .int .i64 x4, .int .i64 x5, .int .i64 x6, .slice a n ca] 25)).alloc (.cells #[.int .i64 k, .int .i64 x0, .int .i64 x1, .int .i64 x2, .int .i64 x3, .int .i64 x4, .int .i64 x5, .int .i64 x6, .slice a2 n cb] 25)).cell? ⟨w.heap.size + 1, 4, none⟩ = some (.int .i64 x3) := (unhide HR2).cell 4
  have d5 : ((w.alloc (.cells #[.int .i64 k, .int .i64 x0, .int .i64 x1, .int .i64 x2, .int .i64 x3, .int .i64 x4, .int .i64 x5, .int .i64 x6, .slice a n ca] 25)).alloc (.cells #[.int .i64 k, .int .i64 x0, .int .i64 x1, .int .i64 x2, .int .i64 x3, .int .i64 x4, .int .i64 x5, .int .i64 x6, .slice a2 n cb] 25)).cell? ⟨w.heap.size + 1, 5, none⟩ = some (.int .i64 x4) := (unhide HR2).cell 5
  have d6 : ((w.alloc (.cells #[.int .i64 k, .int .i64 x0, .int .i64 x1, .int .i64 x2, .int .i64 x3, .int .i64 x4, .int .i64 x5, .int .i64 x6, .slice a n ca] 25)).alloc (.cells #[.int .i64 k, .int .i64 x0, .int .i64 x1, .int .i64 x2, .int .i64 x3, .int .i64 x4, .int .i64 x5, .int .i64 x6, .slice a2 n cb] 25)).cell? ⟨w.heap.size + 1, 6, none⟩ = some (.int .i64 x5) := (unhide HR2).cell 6
  have d7 : ((w.alloc (.cells #[.int .i64 k, .int .i64 x0, .int .i64 x1, .int .i64 x2, .int .i64 x3, .int .i64 x4, .int .i64 x5, .int .i64 x6, .slice a n ca] 25)).alloc (.cells #[.int .i64 k, .int .i64 x0, .int .i64 x1, .int .i64 x2, .int .i64 x3, .int .i64 x4, .int .i64 x5, .int .i64 x6, .slice a2 n cb] 25)).cell? ⟨w.heap.size + 1, 7, none⟩ = some (.int .i64 x6) := (unhide HR2).cell 7
  have d8 : ((w.alloc (.cells #[.int .i64 k, .int .i64 x0, .int .i64 x1, .int .i64 x2, .int .i64 x3, .int .i64 x4, .int .i64 x5, .int .i64 x6, .slice a n ca] 25)).alloc (.cells #[.int .i64 k, .int .i64 x0, .int .i64 x1, .int .i64 x2, .int .i64 x3, .int .i64 x4, .int .i64 x5, .int .i64 x6, .slice a2 n cb] 25)).cell? ⟨w.heap.size + 1, 8, none⟩ = some (.slice a2 n cb) := (unhide HR2).cell 8
  unfold msgV
  go_enter Tryd.func20, Tryd.ntmps20
  go_wp2_with fail
  generalize (w.alloc (.cells #[.int .i64 k, .int .i64 x0, .int .i64 x1, .int .i64 x2, .int .i64 x3, .int .i64 x4, .int .i64 x5, .int .i64 x6, .slice a n ca] 25)).alloc (.cells #[.int .i64 k, .int .i64 x0, .int .i64 x1, .int .i64 x2, .int .i64 x3, .int .i64 x4, .int .i64 x5, .int .i64 x6, .slice a2 n cb] 25) = w2 at *
  refine Calls.mono (unhide HSM) ?_
  rintro e w3 ⟨rfl, b3⟩
  have HB3 := hide ((unhide HB2).trans (b3.mono (unhide HB2).size))
  clear b3 c0 d0 c1 d1 c2 d2 c3 d3 c4 d4 c5 d5 c6 d6 c7 d7 c8 d8
  go_wp2_with fail
  go_ret
  exact ⟨rfl, unhide HB3⟩
end Go.Proofs.YtbnfilhilgjnfaaDoor
