/- DeskNobody. -/
import Derived.Test.YthgacmlbmcehmaaDDoes
namespace Go.Proofs.Ythgacmlbmcehmaa
set_option linter.unusedVariables false
set_option linter.unusedSimpArgs false
open Go.ChangeShapes Go.WideShapes Go.ChangeAt Go.RowKit Go.Joins Go.Deep

/-- what lies in memory while the two desks are asked -/
structure Nb (w wr : World) (b : Nat) (o who conn n : Int) : Prop where
  d : RowAt wr b 38 [.int .i64 o, .int .i64 who, .int .i64 conn, .int .i64 n]
  z : RowAt wr (b + 1) 72 [.slice none 0 0, .slice none 0 0]
  l : RowAt wr (b + 1 + 1) 30 [.pointer none, .pointer (some ⟨b + 1, 0, none⟩)]
  bel : Below w.heap.size w wr
theorem Nb.call {w wr w' : World} {b : Nat} {o who conn n : Int} (h : Nb w wr b o who conn n) (hb : Below wr.heap.size wr w') : Nb w w' b o who conn n :=
  ⟨h.d.below hb h.d.lt, h.z.below hb h.z.lt, h.l.below hb h.l.lt, h.bel.trans (hb.mono h.bel.size)⟩
theorem Nb.start (w : World) (o who conn n : Int) : Nb w (((w.alloc (.cells #[.int .i64 o, .int .i64 who, .int .i64 conn, .int .i64 n] 38)).alloc (.cells #[.slice none 0 0, .slice none 0 0] 72)).alloc (.cells #[.pointer none, .pointer (some ⟨w.heap.size + 1, 0, none⟩)] 30)) w.heap.size o who conn n := by
  refine ⟨?_, ?_, ?_, ?_⟩
  · have h := RowAt.new w 38 [.int .i64 o, .int .i64 who, .int .i64 conn, .int .i64 n]
    exact (h.below ((Below.refl _ _).alloc (Nat.le_refl _) _) h.lt).below ((Below.refl _ _).alloc (Nat.le_refl _) _) (by simp only [size_alloc]; omega)
  · have h := RowAt.new (w.alloc (.cells #[.int .i64 o, .int .i64 who, .int .i64 conn, .int .i64 n] 38)) 72 [.slice none 0 0, .slice none 0 0]
    rw [size_alloc] at h
    exact h.below ((Below.refl _ _).alloc (Nat.le_refl _) _) h.lt
  · have h := RowAt.new ((w.alloc (.cells #[.int .i64 o, .int .i64 who, .int .i64 conn, .int .i64 n] 38)).alloc (.cells #[.slice none 0 0, .slice none 0 0] 72)) 30 [.pointer none, .pointer (some ⟨w.heap.size + 1, 0, none⟩)]
    rw [size_alloc, size_alloc] at h
    exact h
  · exact (((Below.refl _ _).alloc (Nat.le_refl _) _).alloc (by rw [size_alloc]; omega) _).alloc (by rw [size_alloc, size_alloc]; omega) _
theorem drewN_below (w : World) (q : Nat) : Below w.heap.size w (w.drewN q) := Joins.below_draws _ _ q
theorem nob_quiet {d : Value} {wr : World} (h : Nob d wr) (who conn : Int) (q : Nat) :
    (Calls Try.prog 26 #[d, .int .i64 who] (wr.drewN q) fun e w' => e = .returned (.int .i64 0) ∧ w' = wr.drewN q) ∧
    (Calls Try.prog 27 #[d, .int .i64 conn] (wr.drewN q) fun e w' => e = .returned (.int .i64 0) ∧ w' = wr.drewN q) ∧
    (Calls Try.prog 33 #[d] (wr.drewN q) fun e w' => e = .returned (.slice none 0 0) ∧ w' = wr.drewN q) := by
  have hN := h.call (drewN_below wr q)
  exact ⟨Calls.mono (locked_bad d who 6 _ rfl (hN.no who)) (fun e w' h => ⟨h.1, h.2.symm⟩), Calls.mono (hN.seats conn) (fun e w' h => ⟨h.1, h.2.symm⟩), Calls.mono hN.tick (fun e w' h => ⟨h.1, h.2.symm⟩)⟩
set_option maxRecDepth 100000 in
set_option maxHeartbeats 4000000 in
theorem law_any (o who conn n : Int) (w : World) (hw : I64 who) (hc : I64 conn) (hn : I64 n) (ho : I64 o) :
    Calls Try.prog 9 #[.agg #[.int .i64 o, .int .i64 who, .int .i64 conn, .int .i64 n]] w fun r w' => r = .returned (.bool true) ∧ Below w.heap.size w w' := by
  have HS := hide (Nb.start w o who conn n)
  go_enter Try.func9, Try.ntmps9
  go_wp2_with fail
  generalize (((w.alloc (.cells #[.int .i64 o, .int .i64 who, .int .i64 conn, .int .i64 n] 38)).alloc (.cells #[.slice none 0 0, .slice none 0 0] 72)).alloc (.cells #[.pointer none, .pointer (some ⟨w.heap.size + 1, 0, none⟩)] 30)) = ws at *
  go_loopw [15] (fun s wr => ∃ k : Nat, k ≤ 2 ∧ s = .int .i64 (k : Int) ∧ Hid (Nb w wr w.heap.size o who conn n)) (fun s _ => (2 - intOf s).toNat)
  case atStart => exact ⟨0, by omega, by simp, HS⟩
  case round =>
    clear HS
    obtain ⟨k, hk, rfl, HI⟩ := hrel
    obtain ⟨b, hbb⟩ : ∃ b, w.heap.size = b := ⟨_, rfl⟩
    rw [hbb] at HI ⊢
    obtain rfl | rfl | rfl : k = 0 ∨ k = 1 ∨ k = 2 := by omega
    · have hN : Nob (.pointer none) wr := .inl rfl
      have hd : wr.cell? ⟨b + 1 + 1, 0, none⟩ = some (.pointer none) := (unhide HI).l.cell 0
      have d0 : wr.cell? ⟨b, 0, none⟩ = some (.int .i64 o) := (unhide HI).d.cell 0
      have d1 : wr.cell? ⟨b, 1, none⟩ = some (.int .i64 who) := (unhide HI).d.cell 1
      have d2 : wr.cell? ⟨b, 2, none⟩ = some (.int .i64 conn) := (unhide HI).d.cell 2
      have d3 : wr.cell? ⟨b, 3, none⟩ = some (.int .i64 n) := (unhide HI).d.cell 3
      have HN := hide hN
      have HQ := hide (nob_quiet hN who conn)
      clear hN
      go_wp2_with fail
      refine Calls.mono (state_bad _ who 6 _ rfl ((unhide HN).no who)) ?_
      rintro r w2 ⟨rfl, rfl⟩
      go_wp2_with fail
      refine Calls.mono (knock_bad _ who conn 6 _ rfl ((unhide HN).no who)) ?_
      rintro r w2 ⟨rfl, rfl⟩
      go_wp2_with fail
      go_quiet (first | (go_at_call 26; exact Calls.quiet_of_same (unhide HQ _).1) | (go_at_call 27; exact Calls.quiet_of_same (unhide HQ _).2.1) | (go_at_call 33; exact Calls.quiet_of_same (unhide HQ _).2.2))
      have hbq := drewN_below wr nq
      have HI2 := hide ((unhide HI).call hbq)
      have HN2 := hide ((unhide HN).call hbq)
      clear hbq HI HN HQ d0 d1 d2 d3 hd
      generalize wr.drewN nq = wq at *
      have d0 : wq.cell? ⟨b, 0, none⟩ = some (.int .i64 o) := (unhide HI2).d.cell 0
      have d1 : wq.cell? ⟨b, 1, none⟩ = some (.int .i64 who) := (unhide HI2).d.cell 1
      have d2 : wq.cell? ⟨b, 2, none⟩ = some (.int .i64 conn) := (unhide HI2).d.cell 2
      have d3 : wq.cell? ⟨b, 3, none⟩ = some (.int .i64 n) := (unhide HI2).d.cell 3
      by_cases hz : bits .and .i64 o 7 = 7
      · have HD := hide (does_nob _ o who conn n wq (unhide HN2) hw hc hn ho)
        rw [if_pos hz] at HD
        go_wp2_with fail
        refine Calls.mono (unhide HD) ?_
        rintro r w3 ⟨rfl, hb3⟩
        have HI3 := hide ((unhide HI2).call hb3)
        have f0 : w3.cell? ⟨b, 0, none⟩ = some (.int .i64 o) := (unhide HI3).d.cell 0
        clear hb3 HI2 HN2 HD d0 d1 d2 d3
        go_wp2_with fail
        first
          | exact ⟨⟨0 + 1, by omega, by simp, HI3⟩, by simp [intOf]⟩
          | trace_state
      · have HD := hide (does_nob _ o who conn n wq (unhide HN2) hw hc hn ho)
        rw [if_neg hz] at HD
        clear hz
        go_wp2_with fail
        refine Calls.mono (unhide HD) ?_
        rintro r w3 ⟨rfl, hb3⟩
        have HI3 := hide ((unhide HI2).call hb3)
        clear hb3 HI2 HN2 HD d0 d1 d2 d3
        go_wp2_with fail
        first
          | exact ⟨⟨0 + 1, by omega, by simp, HI3⟩, by simp [intOf]⟩
          | trace_state
    · have hN : Nob (.pointer (some ⟨b + 1, 0, none⟩)) wr := .inr ⟨_, rfl, (unhide HI).z⟩
      have hd : wr.cell? ⟨b + 1 + 1, 1, none⟩ = some (.pointer (some ⟨b + 1, 0, none⟩)) := (unhide HI).l.cell 1
      have d0 : wr.cell? ⟨b, 0, none⟩ = some (.int .i64 o) := (unhide HI).d.cell 0
      have d1 : wr.cell? ⟨b, 1, none⟩ = some (.int .i64 who) := (unhide HI).d.cell 1
      have d2 : wr.cell? ⟨b, 2, none⟩ = some (.int .i64 conn) := (unhide HI).d.cell 2
      have d3 : wr.cell? ⟨b, 3, none⟩ = some (.int .i64 n) := (unhide HI).d.cell 3
      have HN := hide hN
      have HQ := hide (nob_quiet hN who conn)
      clear hN
      go_wp2_with fail
      refine Calls.mono (state_bad _ who 6 _ rfl ((unhide HN).no who)) ?_
      rintro r w2 ⟨rfl, rfl⟩
      go_wp2_with fail
      refine Calls.mono (knock_bad _ who conn 6 _ rfl ((unhide HN).no who)) ?_
      rintro r w2 ⟨rfl, rfl⟩
      go_wp2_with fail
      go_quiet (first | (go_at_call 26; exact Calls.quiet_of_same (unhide HQ _).1) | (go_at_call 27; exact Calls.quiet_of_same (unhide HQ _).2.1) | (go_at_call 33; exact Calls.quiet_of_same (unhide HQ _).2.2))
      have hbq := drewN_below wr nq
      have HI2 := hide ((unhide HI).call hbq)
      have HN2 := hide ((unhide HN).call hbq)
      clear hbq HI HN HQ d0 d1 d2 d3 hd
      generalize wr.drewN nq = wq at *
      have d0 : wq.cell? ⟨b, 0, none⟩ = some (.int .i64 o) := (unhide HI2).d.cell 0
      have d1 : wq.cell? ⟨b, 1, none⟩ = some (.int .i64 who) := (unhide HI2).d.cell 1
      have d2 : wq.cell? ⟨b, 2, none⟩ = some (.int .i64 conn) := (unhide HI2).d.cell 2
      have d3 : wq.cell? ⟨b, 3, none⟩ = some (.int .i64 n) := (unhide HI2).d.cell 3
      by_cases hz : bits .and .i64 o 7 = 7
      · have HD := hide (does_nob _ o who conn n wq (unhide HN2) hw hc hn ho)
        rw [if_pos hz] at HD
        go_wp2_with fail
        refine Calls.mono (unhide HD) ?_
        rintro r w3 ⟨rfl, hb3⟩
        have HI3 := hide ((unhide HI2).call hb3)
        have f0 : w3.cell? ⟨b, 0, none⟩ = some (.int .i64 o) := (unhide HI3).d.cell 0
        clear hb3 HI2 HN2 HD d0 d1 d2 d3
        go_wp2_with fail
        first
          | exact ⟨⟨1 + 1, by omega, by simp, HI3⟩, by simp [intOf]⟩
          | trace_state
      · have HD := hide (does_nob _ o who conn n wq (unhide HN2) hw hc hn ho)
        rw [if_neg hz] at HD
        clear hz
        go_wp2_with fail
        refine Calls.mono (unhide HD) ?_
        rintro r w3 ⟨rfl, hb3⟩
        have HI3 := hide ((unhide HI2).call hb3)
        clear hb3 HI2 HN2 HD d0 d1 d2 d3
        go_wp2_with fail
        first
          | exact ⟨⟨1 + 1, by omega, by simp, HI3⟩, by simp [intOf]⟩
          | trace_state
    · go_wp2_with fail
      refine Calls.mono (awake_any _) ?_
      rintro r w2 ⟨rfl, hb2⟩
      have HB := hide ((unhide HI).call hb2)
      clear hb2 HI
      go_wp2_with fail
      go_ret
      exact ⟨rfl, (unhide HB).bel⟩
end Go.Proofs.Ythgacmlbmcehmaa
