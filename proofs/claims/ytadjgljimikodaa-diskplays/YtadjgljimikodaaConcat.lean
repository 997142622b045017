/- Two lists of bytes, one behind the other. -/
import Derived.Test.YtadjgljimikodaaDosOwn
import Derived.Lib.AppendZeros
namespace Go.Proofs.Ytadjgljimikodaa
set_option linter.unusedVariables false
set_option linter.unusedSimpArgs false
open Go.ChangeShapes Go.WideShapes Go.ChangeAt Go.RowKit

set_option maxHeartbeats 1000000 in
theorem grow_any (n : Nat) (w : World) (hn : n ≤ 1000000000) :
    Calls Try.prog 42 #[.slice none 0 0, .int .i64 (n : Int)] w fun e w' => ∃ a cap, e = .returned (.slice a 0 cap) ∧ w'.ownsRow w.heap.size 5 1 (.slice a 0 cap) 0 [] ∧ Below w.heap.size w w' := by
  obtain ⟨i0, hi, hz0, hz1, hz2⟩ := info_parts info5
  by_cases h0 : n = 0
  · subst h0
    go_enter Try.func42, Try.ntmps42
    go_wp2
    go_ret
    exact ⟨none, 0, rfl, World.ownsRow_nil _ _ _ _, Below.refl _ _⟩
  · have hpos : (0 : Int) < (n : Int) := by omega
    have hr := fun ty => Lib.run_append_nil_zeros (P := Try.prog) w 32 3 ty 5 i0 (.int .u8 0) .i64 .i64 Try.underlying32 Try.underlying3 hi hz0 n (by omega) (by omega) (by omega) (by rw [hz2]; omega)
    have hcap := grownCap_ge w n 0 5
    have hcm : grownCap w n 0 5 ≤ maxLen := grownCap_le_maxLen w n 0 5 (by unfold maxLen; omega)
    generalize hc : grownCap w n 0 5 = c at *
    have HR := hide hr
    clear hr hc
    have hlen : (Builtin.zeroCells (Value.int IntKind.u8 0).cells n ++ Builtin.zeroCells (Value.int IntKind.u8 0).cells (c - n)).size = c := by
      simp only [Array.size_append, size_zeroCells]
      simp [Value.cells]
      omega
    generalize hzz : Builtin.zeroCells (Value.int IntKind.u8 0).cells n ++ Builtin.zeroCells (Value.int IntKind.u8 0).cells (c - n) = zz at *
    have HLEN := hide hlen
    clear hlen hzz
    go_enter Try.func42, Try.ntmps42
    go_wp2_with (at_builtin; refine Lib.wpList_append_run _ rfl _ _ _ _ rfl _ _ rfl rfl _ _ (unhide HR _) ?_)
    go_ret
    refine ⟨some ⟨w.heap.size, 0, none⟩, c, rfl, ?_, ?_⟩
    · have q := World.ownsRow_made (base := w.heap.size) (e := 5) (size := 1) w.drew zz c (Nat.le_refl _) hcm (by rw [unhide HLEN]; omega)
      exact q
    · exact ((Below.refl _ _).drew).alloc (Nat.le_refl _) _

theorem byt_src {w : World} {a : Option Addr} {n cap : Nat} {l : List Nat} (h : Byt w (.slice a n cap) l) (hn : l.length = n) : (a = none → n = 0) ∧ ∀ b, a = some b → ∀ j u, (bv l)[j]? = some u → w.cell? (b.add j) = some u := by
  rcases h with ⟨e, rfl⟩ | ⟨ad, cap', e, h1, h2, h3⟩
  · injection e with e1 e2 e3
    exact ⟨(fun _ => e2), (fun b hb => by rw [e1] at hb; cases hb)⟩
  · injection e with e1 e2 e3
    subst e1
    refine ⟨(fun h => nomatch h), ?_⟩
    intro b hb
    injection hb with hb
    subst hb
    exact Byt.news h3

set_option maxHeartbeats 2000000 in
theorem concat_two (b n0 n1 c0 c1 cap : Nat) (a0 a1 : Option Addr) (l0 l1 : List Nat) (w : World) (p0 : w.cell? ⟨b, 0, none⟩ = some (.slice a0 n0 c0)) (p1 : w.cell? ⟨b, 1, none⟩ = some (.slice a1 n1 c1)) (h0 : Byt w (.slice a0 n0 c0) l0) (h1 : Byt w (.slice a1 n1 c1) l1) (e0 : l0.length = n0) (e1 : l1.length = n1) (g0 : n0 ≤ 100000000) (g1 : n1 ≤ 100000000) :
    Calls Try.prog 29 #[.slice (some ⟨b, 0, none⟩) 2 cap] w fun e w' => ∃ a' c', e = .returned (.slice a' (n0 + n1) c') ∧ w'.ownsRow w.heap.size 5 1 (.slice a' (n0 + n1) c') (n0 + n1) (bv (l0 ++ l1)) ∧ Below w.heap.size w w' := by
  obtain ⟨i0, hi, hz0, hz1, hz2⟩ := info_parts info5
  have HB0 := hide h0
  have HB1 := hide h1
  have HL0 : Hid ((bv l0).length = n0 * 1) := hide (by rw [bv_len, e0]; omega)
  have HL1 : Hid ((bv l1).length = n1 * 1) := hide (by rw [bv_len, e1]; omega)
  have E0 := hide e0
  have E1 := hide e1
  clear h0 h1 e0 e1
  go_enter Try.func29, Try.ntmps29
  go_wp2_with fail
  go_loop [3, 11] (fun s i => ∃ k : Nat, k ≤ 2 ∧ i = .int .i64 k ∧ s = .int .i64 ((match k with | 0 => 0 | 1 => n0 | _ => n0 + n1 : Nat) : Int)) (fun _ i => 2 - (intOf i).toNat)
  case atStart => exact ⟨0, by omega, rfl, rfl⟩
  case round =>
    obtain ⟨k, hk, rfl, rfl⟩ := hrel
    match k, hk with
    | 0, _ =>
      go_wp2
      go_round
      case rel => exact ⟨1, by omega, by go_num, by go_num⟩
      case measure => simp [intOf]
    | 1, _ =>
      go_wp2
      go_round
      case rel => exact ⟨2, by omega, by go_num, by go_num⟩
      case measure => simp [intOf]
    | 2, _ =>
      have KG := grow_any (n0 + n1) w (by omega)
      rw [show ((n0 + n1 : Nat) : Int) = (n0 : Int) + (n1 : Int) by omega] at KG
      have KG := hide KG
      go_wp2_with fail
      refine (unhide KG).mono ?_
      clear KG
      rintro e w1 ⟨a2, cap2, rfl, ho, hb⟩
      have HO := hide ho
      have HB := hide hb
      clear ho hb
      go_wp2_with fail
      go_loopw [6, 8, 27] (fun v _ i wr => ∃ k : Nat, k ≤ 2 ∧ i = .int .i64 k ∧ (∃ a' c', v = .slice a' (match k with | 0 => 0 | 1 => n0 | _ => n0 + n1) c') ∧ wr.ownsRow w.heap.size 5 1 v (match k with | 0 => 0 | 1 => n0 | _ => n0 + n1) (match k with | 0 => [] | 1 => bv l0 | _ => bv (l0 ++ l1)) ∧ Below w.heap.size w wr) (fun _ _ i _ => 2 - (intOf i).toNat)
      case atStart => exact ⟨0, by omega, rfl, ⟨_, _, rfl⟩, unhide HO, unhide HB⟩
      case round =>
        obtain ⟨k, hk, rfl, ⟨a', c', rfl⟩, ho, hb⟩ := hrel
        have q0 := cell_keep hb (lt_of_cell p0) p0
        have q1 := cell_keep hb (lt_of_cell p1) p1
        have hs := hb.size
        match k, hk with
        | 0, _ =>
          have hsrc := byt_src ((unhide HB0).call hb) (unhide E0)
          have HS := hide hsrc
          have HBW := hide hb
          clear hsrc hb
          go_wp2_with (at_builtin; refine wpList_append_src _ rfl _ _ 32 rfl w.heap.size 5 i0 (.int .u8 0) 1 1 Try.underlying32 hi hz0 hz1 hz2 rfl (by decide) _ _ _ rfl ho a0 n0 c0 (bv l0) rfl (unhide HL0) (unhide HS).1 (unhide HS).2 (bv_one l0) ?c3 ?c4 hs ?_)
          case c3 => unfold maxLen; omega
          case c4 => omega
          intro a3 c3 w3 ho3 hg3
          have hb3 := (unhide HBW).grown hg3 hs (fun k hk => (ho.lt k hk).1)
          try simp only [Nat.zero_add, List.nil_append] at ho3
          try rw [Nat.zero_add]
          go_wp2
          go_roundw
          case rel => exact ⟨1, by omega, by go_num, ⟨_, _, rfl⟩, ho3, hb3⟩
          case measure => simp [intOf]
        | 1, _ =>
          have hsrc := byt_src ((unhide HB1).call hb) (unhide E1)
          have HS := hide hsrc
          have HBW := hide hb
          clear hsrc hb
          go_wp2_with (at_builtin; refine wpList_append_src _ rfl _ _ 32 rfl w.heap.size 5 i0 (.int .u8 0) 1 1 Try.underlying32 hi hz0 hz1 hz2 rfl (by decide) _ _ _ rfl ho a1 n1 c1 (bv l1) rfl (unhide HL1) (unhide HS).1 (unhide HS).2 (bv_one l1) ?c3 ?c4 hs ?_)
          case c3 => unfold maxLen; omega
          case c4 => omega
          intro a3 c3 w3 ho3 hg3
          have hb3 := (unhide HBW).grown hg3 hs (fun k hk => (ho.lt k hk).1)
          rw [← bv_append] at ho3
          go_wp2
          go_roundw
          case rel => exact ⟨2, by omega, by go_num, ⟨_, _, rfl⟩, ho3, hb3⟩
          case measure => simp [intOf]
        | 2, _ =>
          go_wp2
          go_ret
          exact ⟨a', c', rfl, ho, hb⟩
end Go.Proofs.Ytadjgljimikodaa
