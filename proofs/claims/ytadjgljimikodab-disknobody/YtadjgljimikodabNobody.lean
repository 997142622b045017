/- For any call the Go function sealskinlaw05.DiskNobody returns true, and its argument reads as it did. No condition. -/
import Derived.Test.YtadjgljimikodabAwakeB
import Derived.ChangeSlices
namespace Go.Proofs.Ytadjgljimikodab.nobody
set_option linter.unusedVariables false
set_option linter.unusedSimpArgs false
open Go.ChangeShapes Go.WideShapes Go.ChangeAt Go.RowKit Go.Joins

/-- no disk, or one that no call made -/
def ND (w : World) (p : Option Addr) : Prop := p = none ∨ ∃ g, p = some ⟨g, 0, none⟩ ∧ w.cell? ⟨g, 3, none⟩ = some (.int .i64 0)
theorem ND.call {w w' : World} {p : Option Addr} (h : ND w p) (hb : Below w.heap.size w w') : ND w' p := by
  rcases h with rfl | ⟨g, rfl, h2⟩
  · exact .inl rfl
  · exact .inr ⟨g, rfl, cell_keep hb (lt_of_cell h2) h2⟩
set_option maxHeartbeats 400000 in
theorem nmade (p : Option Addr) (w : World) (hp : ND w p) : Calls Try.prog 41 #[.pointer p] w fun e w' => e = .returned (.bool false) ∧ w = w' := by
  rcases hp with rfl | ⟨g, rfl, h2⟩
  · go_enter Try.func41, Try.ntmps41
    go_wp2
    go_ret
    exact ⟨rfl, rfl⟩
  · go_enter Try.func41, Try.ntmps41
    go_wp2
    go_ret
    exact ⟨rfl, rfl⟩
set_option maxHeartbeats 400000 in
theorem npower (p : Option Addr) (w : World) (hp : ND w p) : Calls Try.prog 60 #[.pointer p] w fun e w' => e = .returned (.int .i64 6) ∧ w = w' := by
  go_enter Try.func60, Try.ntmps60
  go_wp2_with (go_at_call 41; refine (nmade p _ hp).mono ?_; rintro e w' ⟨rfl, rfl⟩)
  go_ret
  exact ⟨rfl, rfl⟩
set_option maxHeartbeats 400000 in
theorem nfile (p : Option Addr) (f : Int) (w : World) (hp : ND w p) : Calls Try.prog 38 #[.pointer p, .int .i64 f] w fun e w' => e = .returned (.int .i64 6) ∧ w = w' := by
  go_enter Try.func38, Try.ntmps38
  go_wp2_with (go_at_call 60; refine (npower p _ hp).mono ?_; rintro e w' ⟨rfl, rfl⟩)
  go_ret
  exact ⟨rfl, rfl⟩
set_option maxHeartbeats 400000 in
theorem nused (p : Option Addr) (w : World) (hp : ND w p) : Calls Try.prog 11 #[.pointer p] w fun e w' => e = .returned (.int .i64 0) ∧ w = w' := by
  go_enter Try.func11, Try.ntmps11
  go_wp2_with (go_at_call 41; refine (nmade p _ hp).mono ?_; rintro e w' ⟨rfl, rfl⟩)
  go_ret
  exact ⟨rfl, rfl⟩
set_option maxHeartbeats 400000 in
theorem nread (p : Option Addr) (f : Int) (w : World) (hp : ND w p) : Calls Try.prog 9 #[.pointer p, .int .i64 f] w fun e w' => e = .returned (.tuple #[.slice none 0 0, .int .i64 6]) ∧ w = w' := by
  go_enter Try.func9, Try.ntmps9
  go_wp2_with (go_at_call 38; refine (nfile p _ _ hp).mono ?_; rintro e w' ⟨rfl, rfl⟩)
  go_ret2
  exact ⟨rfl, rfl⟩
set_option maxHeartbeats 400000 in
theorem nappend (p : Option Addr) (f : Int) (v : Value) (w : World) (hp : ND w p) : Calls Try.prog 35 #[.pointer p, .int .i64 f, v] w fun e w' => e = .returned (.int .i64 6) ∧ w = w' := by
  go_enter Try.func35, Try.ntmps35
  go_wp2_with (go_at_call 38; refine (nfile p _ _ hp).mono ?_; rintro e w' ⟨rfl, rfl⟩)
  go_ret
  exact ⟨rfl, rfl⟩
set_option maxHeartbeats 400000 in
theorem nwipe (p : Option Addr) (f : Int) (w : World) (hp : ND w p) : Calls Try.prog 39 #[.pointer p, .int .i64 f] w fun e w' => e = .returned (.int .i64 6) ∧ w = w' := by
  go_enter Try.func39, Try.ntmps39
  go_wp2_with (go_at_call 38; refine (nfile p _ _ hp).mono ?_; rintro e w' ⟨rfl, rfl⟩)
  go_ret
  exact ⟨rfl, rfl⟩
set_option maxHeartbeats 400000 in
theorem ncrash (p : Option Addr) (w : World) (hp : ND w p) : Calls Try.prog 23 #[.pointer p] w fun e w' => e = .returned (.int .i64 6) ∧ w = w' := by
  go_enter Try.func23, Try.ntmps23
  go_wp2_with (go_at_call 60; refine (npower p _ hp).mono ?_; rintro e w' ⟨rfl, rfl⟩)
  go_ret
  exact ⟨rfl, rfl⟩
set_option maxHeartbeats 400000 in
theorem narm (p : Option Addr) (n : Int) (w : World) (hp : ND w p) : Calls Try.prog 25 #[.pointer p, .int .i64 n] w fun e w' => e = .returned (.int .i64 6) ∧ w = w' := by
  go_enter Try.func25, Try.ntmps25
  go_wp2_with (go_at_call 60; refine (npower p _ hp).mono ?_; rintro e w' ⟨rfl, rfl⟩)
  go_ret
  exact ⟨rfl, rfl⟩
set_option maxHeartbeats 400000 in
theorem ndisarm (p : Option Addr) (w : World) (hp : ND w p) : Calls Try.prog 40 #[.pointer p] w fun e w' => e = .returned (.int .i64 6) ∧ w = w' := by
  go_enter Try.func40, Try.ntmps40
  go_wp2_with (go_at_call 60; refine (npower p _ hp).mono ?_; rintro e w' ⟨rfl, rfl⟩)
  go_ret
  exact ⟨rfl, rfl⟩
set_option maxHeartbeats 400000 in
theorem nstart (p : Option Addr) (w : World) (hp : ND w p) : Calls Try.prog 29 #[.pointer p] w fun e w' => e = .returned (.int .i64 6) ∧ w = w' := by
  go_enter Try.func29, Try.ntmps29
  go_wp2_with (go_at_call 41; refine (nmade p _ hp).mono ?_; rintro e w' ⟨rfl, rfl⟩)
  go_ret
  exact ⟨rfl, rfl⟩
set_option maxHeartbeats 400000 in
theorem nclone (p : Option Addr) (w : World) (hp : ND w p) : Calls Try.prog 12 #[.pointer p] w fun e w' => e = .returned (.pointer none) ∧ w = w' := by
  go_enter Try.func12, Try.ntmps12
  go_wp2_with (go_at_call 41; refine (nmade p _ hp).mono ?_; rintro e w' ⟨rfl, rfl⟩)
  go_ret
  exact ⟨rfl, rfl⟩

set_option maxHeartbeats 2000000 in
theorem ndoes (p : Option Addr) (op file n : Int) (a : Option Addr) (l cap : Nat) (w : World) (hp : ND w p) :
    Calls Try.prog 10 #[.pointer p, .agg #[.int .i64 op, .int .i64 file, .int .i64 n, .slice a l cap]] w fun e w' => e = .returned (.int .i64 6) ∧ Below w.heap.size w w' := by
  have hb0 : Below w.heap.size w (w.alloc (.cells #[.int .i64 op, .int .i64 file, .int .i64 n, .slice a l cap] 24)) := (Below.refl _ _).alloc (Nat.le_refl _) _
  have h1 := hp.call hb0
  have k4 := hide (nwipe p file _ h1)
  have k5 := hide (ncrash p _ h1)
  have k6 := hide (nstart p _ h1)
  have k7 := hide (narm p n _ h1)
  have k8 := hide (ndisarm p _ h1)
  have k0 := hide (nappend p file (.slice a l cap) _ h1)
  have HB := hide hb0
  clear hb0 h1 hp
  go_enter Try.func10, Try.ntmps10
  go_wp2_with (first
    | (go_at_call 39; refine (unhide k4).mono ?_; rintro e w' ⟨rfl, rfl⟩)
    | (go_at_call 23; refine (unhide k5).mono ?_; rintro e w' ⟨rfl, rfl⟩)
    | (go_at_call 29; refine (unhide k6).mono ?_; rintro e w' ⟨rfl, rfl⟩)
    | (go_at_call 25; refine (unhide k7).mono ?_; rintro e w' ⟨rfl, rfl⟩)
    | (go_at_call 40; refine (unhide k8).mono ?_; rintro e w' ⟨rfl, rfl⟩)
    | (go_at_call 35; refine (unhide k0).mono ?_; rintro e w' ⟨rfl, rfl⟩))
  all_goals (go_ret; exact ⟨rfl, unhide HB⟩)

set_option maxHeartbeats 4000000 in
theorem walk (op file n : Int) (a : Option Addr) (l cap : Nat) (w : World) :
    Calls Try.prog 3 #[.agg #[.int .i64 op, .int .i64 file, .int .i64 n, .slice a l cap]] w fun e w' => e = .returned (.bool true) ∧ Below w.heap.size w w' := by
  go_enter Try.func3, Try.ntmps3
  go_wp2_with fail
  have hW : ∃ W3, W3 = ((w.alloc (.cells #[.int .i64 op, .int .i64 file, .int .i64 n, .slice a l cap] 24)).alloc (.cells #[.slice none 0 0, .slice none 0 0, .slice none 0 0, .int .i64 0, .bool false, .int .i64 0] 28)).alloc (.cells #[.pointer none, .pointer (some ⟨w.heap.size + 1, 0, none⟩)] 25) := ⟨_, rfl⟩
  obtain ⟨W3, hW3⟩ := hW
  have B : Below w.heap.size w W3 := by
    rw [hW3]
    exact (((Below.refl _ _).alloc (Nat.le_refl _) _).alloc (by simp) _).alloc (by simp; omega) _
  have hz : w.heap.size + 1 + 1 < W3.heap.size := by rw [hW3]; simp
  have c0 : W3.cell? ⟨w.heap.size, 0, none⟩ = some (.int .i64 op) := by rw [hW3]; simp [go_sem]
  have c1 : W3.cell? ⟨w.heap.size, 1, none⟩ = some (.int .i64 file) := by rw [hW3]; simp [go_sem]
  have c2 : W3.cell? ⟨w.heap.size, 2, none⟩ = some (.int .i64 n) := by rw [hW3]; simp [go_sem]
  have c3 : W3.cell? ⟨w.heap.size, 3, none⟩ = some (.slice a l cap) := by rw [hW3]; simp [go_sem]
  have n2 : W3.cell? ⟨w.heap.size + 1, 3, none⟩ = some (.int .i64 0) := by rw [hW3]; simp [go_sem]
  have p0 : W3.cell? ⟨w.heap.size + 1 + 1, 0, none⟩ = some (.pointer none) := by rw [hW3]; simp [go_sem]
  have p1 : W3.cell? ⟨w.heap.size + 1 + 1, 1, none⟩ = some (.pointer (some ⟨w.heap.size + 1, 0, none⟩)) := by rw [hW3]; simp [go_sem]
  rw [← hW3]
  clear hW3
  have HC := hide (And.intro (And.intro c0 (And.intro c1 (And.intro c2 c3))) (And.intro n2 (And.intro p0 p1)))
  have HB := hide B
  have HZ := hide hz
  clear B hz c0 c1 c2 c3 n2 p0 p1
  go_loopw [12] (fun i wr => ∃ k : Nat, k ≤ 2 ∧ i = .int .i64 k ∧ Below W3.heap.size W3 wr) (fun i _ => 2 - (intOf i).toNat)
  case atStart => exact ⟨0, by omega, rfl, Below.refl _ _⟩
  case round =>
    obtain ⟨k, hk, rfl, hbel⟩ := hrel
    obtain ⟨⟨c0, c1, c2, c3⟩, n2, p0, p1⟩ := unhide HC
    have hz := unhide HZ
    have d0 := cell_keep hbel (lt_of_cell c0) c0
    have d1 := cell_keep hbel (lt_of_cell c1) c1
    have d2 := cell_keep hbel (lt_of_cell c2) c2
    have d3 := cell_keep hbel (lt_of_cell c3) c3
    have m2 := cell_keep hbel (lt_of_cell n2) n2
    have q0 := cell_keep hbel (lt_of_cell p0) p0
    have q1 := cell_keep hbel (lt_of_cell p1) p1
    have hB := (unhide HB).trans (hbel.mono (unhide HB).size)
    clear c0 c1 c2 c3 n2 p0 p1
    by_cases hk2 : k = 2
    · subst hk2
      have N0 : ND wr none := .inl rfl
      go_wp2_with (first
          | (go_at_call 12; refine (nclone _ _ N0).mono ?_; rintro e w' ⟨rfl, rfl⟩)
          | (go_at_call 13; refine (awake_any _).mono ?_; rintro e w5 ⟨rfl, b5⟩))
      go_ret
      exact ⟨rfl, hB.trans (b5.mono hB.size)⟩
    · have H0 : ND wr none := .inl rfl
      have H1 : ND wr (some ⟨w.heap.size + 1, 0, none⟩) := .inr ⟨_, rfl, m2⟩
      by_cases hk1 : k = 1
      · subst hk1
        have K1 := hide (nread _ file _ H1)
        have K2 := hide (ndoes _ op file n a l cap _ H1)
        have K3 := hide (p := ∀ w', Below wr.heap.size wr w' → ND w' (some ⟨w.heap.size + 1, 0, none⟩)) (fun w' hb => H1.call hb)
        clear H0 H1 m2
        go_wp2_with fail
        refine (unhide K1).mono ?_
        rintro e w' ⟨rfl, rfl⟩
        go_wp2_with fail
        refine (unhide K2).mono ?_
        rintro e w5 ⟨rfl, b5⟩
        have K4 := hide (nused _ _ (unhide K3 w5 b5))
        go_wp2_with fail
        refine (unhide K4).mono ?_
        rintro e w' ⟨rfl, rfl⟩
        go_wp2
        go_roundw
        case rel => exact ⟨2, by omega, rfl, hbel.trans (b5.mono hbel.size)⟩
        case measure => simp [intOf]
      · obtain rfl : k = 0 := by omega
        have K1 := hide (nread _ file _ H0)
        have K2 := hide (ndoes _ op file n a l cap _ H0)
        have K3 := hide (p := ∀ w', Below wr.heap.size wr w' → ND w' none) (fun w' hb => H0.call hb)
        clear H0 H1 m2
        go_wp2_with fail
        refine (unhide K1).mono ?_
        rintro e w' ⟨rfl, rfl⟩
        go_wp2_with fail
        refine (unhide K2).mono ?_
        rintro e w5 ⟨rfl, b5⟩
        have K4 := hide (nused _ _ (unhide K3 w5 b5))
        go_wp2_with fail
        refine (unhide K4).mono ?_
        rintro e w' ⟨rfl, rfl⟩
        go_wp2
        go_roundw
        case rel => exact ⟨1, by omega, rfl, hbel.trans (b5.mono hbel.size)⟩
        case measure => simp [intOf]

theorem own : ownKnob Try.prog.godebug = none := by kernel_rfl
theorem laidOut : laidOutB Try.prog = true := by kernel_rfl
theorem cells24 : Try.prog.cellsOf 24 = 4 := by kernel_rfl
theorem cells5 : Try.prog.cellsOf 5 = 1 := by kernel_rfl
set_option maxRecDepth 100000 in
theorem open_do {H : Type} {enc : TypeId × Value → H} {W : World} {b0 base : Nat} {spare : Nat → Bool} {held : Bool} {v : Value} {d : DataW H} {p : List MemPlace}
    (hv : Value.okWide Try.prog W .any b0 24 v) (h : DataW.Trod enc Try.prog W base spare held 24 v d p) :
    ∃ (op file n : Int) (a : Option Addr) (l cap : Nat), v = .agg #[.int .i64 op, .int .i64 file, .int .i64 n, .slice a l cap] := by
  obtain ⟨c0, c1, c2, c3, y0, y1, y2, y3, m, rfl, _, _, hy0, hy1, hy2, hy3⟩ := open_agg4 Try.underlying24 (by kernel_rfl) cells24 hv h
  obtain ⟨x0, e0, _, _⟩ := DataW.trod_int Try.underlying3 hy0
  obtain ⟨x1, e1, _, _⟩ := DataW.trod_int Try.underlying3 hy1
  obtain ⟨x2, e2, _, _⟩ := DataW.trod_int Try.underlying3 hy2
  simp at e0 e1 e2
  subst e0 e1 e2
  rcases open_ints Try.underlying22 Try.underlying5 cells5 hy3 with ⟨hcs, _⟩ | ⟨a, n, cap, zs, hcs, _⟩
  · simp at hcs
    subst hcs
    exact ⟨x0, x1, x2, none, 0, 0, rfl⟩
  · simp at hcs
    subst hcs
    exact ⟨x0, x1, x2, some a, n, cap, rfl⟩

set_option maxRecDepth 100000 in
theorem lifted (os : Os) (started : os.Started) (H : Type) (enc : TypeId × Value → H) :
    ReturnsInHanded {} Try.checked os 3 .any (Rows.diskNobodySpec.pre6 enc Try.prog Try.f3 Rows.diskNobodyRow.domain false) (Rows.diskNobodySpec.post enc Try.prog Try.f3 false true false false) := by
  refine returnsInHanded_of_change (C := Try.checked) own started (by kernel_rfl) Try.func3
    (ChangeSpec.witness6 (enc := enc) (C := Try.checked) false ⟨#[], #[.agg #[.int .i64 0, .int .i64 0, .int .i64 0, .slice none 0 0]], []⟩ 8 (by kernel_rfl) (by kernel_rfl) (by kernel_rfl) (by kernel_rfl)) ?_
  intro W base args ds gs before hval0 hW hcnd _
  have hval : ∀ (j : Nat) t v, Try.f3.params[j]? = some t → args[j]? = some v → Value.okWide Try.prog W .any base t v := hval0
  have hW' := hW
  obtain ⟨p, q, hA0, hV, rfl, hfz, hnd⟩ := hW
  have hA : DataW.TrodAll enc Try.prog W 0 (fun _ => true) true Try.f3.params.toList args.toList ds p := hA0
  rw [Try.params3] at hA hval
  obtain ⟨v0, vs0, d0, ds0, p0, q0, hargs, rfl, rfl, h0, r0⟩ := trodAll_cons hA
  obtain ⟨rfl, rfl, rfl⟩ := trodAll_nil r0
  obtain rfl : args = #[v0] := by cases args; simp_all
  obtain ⟨rfl, rfl⟩ := trodVars_none hV
  have lt0 : ∀ x ∈ p0, x.block < W.heap.size := by obtain ⟨m, hm⟩ := h0; exact DataW.trod_lt m _ _ _ hm
  obtain ⟨op, file, n, a, l, cap, rfl⟩ := open_do (hval 0 24 v0 rfl rfl) h0
  clear hA0 hval0
  refine (walk op file n a l cap W).mono fun e W' ⟨he, bel⟩ => ?_
  subst he
  exact ⟨_, rfl, _, _, _, [], _, [], hW', trodAll_mk1 (shut_bool Try.underlying4 _), (trodAll_cons_mk (Below.trod laidOut (by kernel_rfl) (of_decide_eq_true (by kernel_rfl)) h0 bel lt0) trodAll_mk0), rfl, bel.frame _, fun h => by cases h⟩

theorem proved : Rows.DiskNobodySaid :=
  OpenClaim.holds_of_wide 3 Try.f3 rfl rfl rfl rfl rfl rfl rfl ⟨rfl, rfl, rfl, rfl, rfl⟩ rfl rfl rfl rfl rfl (by kernel_rfl) Try.func3 (by kernel_rfl)
    (of_decide_eq_true (by kernel_rfl)) (by unfold Func.isWrapper; first | (rw [if_pos (by decide +kernel)]; kernel_rfl) | (rw [if_neg (by decide +kernel)]; exact ⟨rfl, rfl⟩))
    (fun os started H enc _ => lifted os started H enc)
#print axioms proved
end Go.Proofs.Ytadjgljimikodab.nobody
