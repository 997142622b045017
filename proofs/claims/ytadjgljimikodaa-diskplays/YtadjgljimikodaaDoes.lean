/- What a call does to a disk. -/
import Derived.Test.YtadjgljimikodaaOps6
namespace Go.Proofs.Ytadjgljimikodaa
set_option linter.unusedVariables false
set_option linter.unusedSimpArgs false
open Go.ChangeShapes Go.WideShapes Go.ChangeAt Go.RowKit

def kind (op : Int) : Int := wrap64 ((IntKind.u64.wrap op).tmod 9)
def DS.doD (d : DS) (op file n : Int) (l : List Nat) : DS :=
  if kind op = 4 then d.wipeD file else if kind op = 5 then d.crashD else if kind op = 6 then { d with on := true } else if kind op = 7 then d.armD n else if kind op = 8 then d.disarmD else d.appD file l
def DS.doE (d : DS) (op file n : Int) (l : List Nat) : Int :=
  if kind op = 4 then d.wipeE file else if kind op = 5 then d.check else if kind op = 6 then 0 else if kind op = 7 then d.armE n else if kind op = 8 then d.check else d.appE file l.length
theorem Did.behind {w w0 w' : World} {g : Nat} {S : Nat → Value} {d' : DS} (hb : Below w.heap.size w w0) (h : Did w0 w' g S d') : Did w w' g S d' := by
  obtain ⟨S', h1, h2, h3⟩ := h
  exact ⟨S', h1, (Only.of_below hb).trans h2, fun k hk => (h3 k hk).imp id (fun q => Nat.le_trans hb.size q)⟩

set_option maxHeartbeats 2000000 in
theorem does_any (g : Nat) (S : Nat → Value) (d : DS) (op file n : Int) (v : Value) (l : List Nat) (w : World) (h : Dk w g S d) (hv : Byt w v l) (hfar : 0 < l.length → ∀ k, v.ownBlock = some k → k ≠ g) (hn : n ≤ 9223372036854775807) :
    Calls Try.prog 14 #[.pointer (some ⟨g, 0, none⟩), .agg #[.int .i64 op, .int .i64 file, .int .i64 n, v]] w fun e w' => e = .returned (.int .i64 (d.doE op file n l)) ∧ Did w w' g S (d.doD op file n l) := by
  obtain ⟨a, cap, rfl⟩ := byt_shape hv
  have hb0 : Below w.heap.size w (w.alloc (.cells #[.int .i64 op, .int .i64 file, .int .i64 n, .slice a l.length cap] 34)) := (Below.refl _ _).alloc (Nat.le_refl _) _
  have h1 := h.call hb0
  have hv1 := hv.call hb0
  have k4 := hide (wipe_any g S d file _ h1)
  have k5 := hide (crash_any g S d _ h1)
  have k6 := hide (start_any g S d _ h1)
  have k7 := hide (arm_any g S d n _ h1 hn)
  have k8 := hide (disarm_any g S d _ h1)
  have k0 := hide (append_any g S d file _ l _ h1 hv1 hfar)
  have HB := hide hb0
  clear hb0 h1 hv1 hv hfar h
  unfold DS.doE DS.doD kind
  generalize hk : wrap64 ((IntKind.u64.wrap op).tmod 9) = c
  generalize l.length = nl at *
  by_cases q4 : c = 4
  · subst q4
    simp (config := { decide := true }) only [if_true, if_false]
    go_enter Try.func14, Try.ntmps14
    go_wp2_with fail
    refine (unhide k4).mono ?_
    rintro e w' ⟨rfl, hd⟩
    go_wp2
    go_ret
    exact ⟨rfl, (Did.behind (unhide HB) hd)⟩
  by_cases q5 : c = 5
  · subst q5
    simp (config := { decide := true }) only [if_true, if_false]
    go_enter Try.func14, Try.ntmps14
    go_wp2_with fail
    refine (unhide k5).mono ?_
    rintro e w' ⟨rfl, hd, ho⟩
    go_wp2
    go_ret
    exact ⟨rfl, (Did.behind (unhide HB) (Did.same hd ho))⟩
  by_cases q6 : c = 6
  · subst q6
    simp (config := { decide := true }) only [if_true, if_false]
    go_enter Try.func14, Try.ntmps14
    go_wp2_with fail
    refine (unhide k6).mono ?_
    rintro e w' ⟨rfl, hd, ho⟩
    go_wp2
    go_ret
    exact ⟨rfl, (Did.behind (unhide HB) (Did.same hd ho))⟩
  by_cases q7 : c = 7
  · subst q7
    simp (config := { decide := true }) only [if_true, if_false]
    go_enter Try.func14, Try.ntmps14
    go_wp2_with fail
    refine (unhide k7).mono ?_
    rintro e w' ⟨rfl, hd, ho⟩
    go_wp2
    go_ret
    exact ⟨rfl, (Did.behind (unhide HB) (Did.same hd ho))⟩
  by_cases q8 : c = 8
  · subst q8
    simp (config := { decide := true }) only [if_true, if_false]
    go_enter Try.func14, Try.ntmps14
    go_wp2_with fail
    refine (unhide k8).mono ?_
    rintro e w' ⟨rfl, hd, ho⟩
    go_wp2
    go_ret
    exact ⟨rfl, (Did.behind (unhide HB) (Did.same hd ho))⟩
  simp only [q4, q5, q6, q7, q8, if_false]
  go_enter Try.func14, Try.ntmps14
  go_wp2_with fail
  refine (unhide k0).mono ?_
  rintro e w' ⟨rfl, hd⟩
  go_wp2
  go_ret
  exact ⟨rfl, (Did.behind (unhide HB) hd)⟩
end Go.Proofs.Ytadjgljimikodaa
