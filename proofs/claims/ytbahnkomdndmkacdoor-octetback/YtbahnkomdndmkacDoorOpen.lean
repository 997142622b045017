/- What opens blocks, and what reads. -/
import Derived.Test.YtbahnkomdndmkacDoorBlock
import Derived.Deep.QuietTactic
import Derived.BigQuiet
import Derived.Deep.RegionWith
import Derived.Lib.LazyBuf
namespace Go.Proofs.YtbahnkomdndmkacDoor
set_option linter.unusedVariables false
set_option linter.unusedSimpArgs false
open Go.ChangeShapes Go.WideShapes Go.ChangeAt Go.RowKit

set_option maxHeartbeats 1000000 in
theorem clone_any (v : Value) (l : List Nat) (w : World) (hv : Byt w v l) (hl : l.length ≤ 1000000000) :
    Calls Tryd.prog 10 #[v] w fun e w' => ∃ v', e = .returned v' ∧ w'.ownsRow w.heap.size 5 1 v' l.length (bv l) ∧ Below w.heap.size w w' := by
  obtain ⟨i0, hi, hz0, hz1, hz2⟩ := info_parts info5
  rcases hv with ⟨rfl, rfl⟩ | ⟨a, cap, rfl, h1, h2, h3⟩
  · have hq := fun W => Go.run_eql_slice_nil (P := Tryd.prog) W 22 5 none 0 0 Tryd.underlying22
    go_enter Tryd.func10, Tryd.ntmps10
    go_wp2
    go_ret
    exact ⟨_, rfl, ⟨rfl, .inl ⟨rfl, rfl⟩⟩, Below.refl _ _⟩
  · have hq := fun W => Go.run_eql_slice_nil (P := Tryd.prog) W 22 5 (some a) l.length cap Tryd.underlying22
    have hB : Below w.heap.size w (w.alloc (.cells #[] 5)) := (Below.refl _ _).alloc (Nat.le_refl _) _
    have hnews := Byt.news h3
    generalize hn : l.length = n at *
    have HN := hide hnews
    have HL := hide hn
    clear hnews h3 hn
    have hown : (w.alloc (.cells #[] 5)).ownsRow w.heap.size 5 1 (.slice (some ⟨w.heap.size, 0, none⟩) 0 0) 0 [] := World.ownsRow_made w #[] 0 (Nat.le_refl _) (Nat.zero_le _) rfl
    go_enter Tryd.func10, Tryd.ntmps10
    go_wp2_with (at_builtin; refine wpList_append_own _ rfl _ _ 22 rfl w.heap.size 5 i0 (.int .u8 0) 1 1 Tryd.underlying22 hi hz0 hz1 hz2 rfl (by decide) _ _ _ rfl hown a n cap (bv l) rfl ?c0 ?c1 ?c2 ?c3 ?c4 ?c5 ?_)
    case c0 => rw [bv_len, unhide HL]; omega
    case c1 =>
      intro j u hj
      have := unhide HN j u hj
      exact cell_keep hB (lt_of_cell this) this
    case c2 => exact bv_one l
    case c3 => unfold maxLen; omega
    case c4 => omega
    case c5 => simp
    intro v' w2 hown' hgrow' _
    go_wp2
    go_ret
    refine ⟨_, rfl, ?_, ?_⟩
    · simpa using hown'
    · exact hB.grown hgrow' hB.size (fun k hk => by simp [Value.ownBlock] at hk; omega)

set_option maxHeartbeats 2000000 in
theorem open_any (a : Option Addr) (n cap : Nat) (l : List Nat) (w : World) (hv : Byt w (.slice a n cap) l) (hg : Low (.slice a n cap) w.heap.size) (hl : n ≤ 1000000000) (h256 : ∀ y ∈ l, y < 256)
    (m : Nat) (hm : numOf (l.take 8) = m) (hk : 8 + m + 4 ≤ n) (hmost : m ≤ 16384) (hsum : (l.drop (8 + m)).take 4 = sum4 (sumTo (l.take (8 + m)))) :
    Calls Tryd.prog 33 #[.slice a n cap] w fun e w' => ∃ v', e = .returned (.tuple #[v', .int .i64 ((8 + m + 4 : Nat) : Int), .int .i64 0]) ∧ Byt w' v' ((l.drop 8).take m) ∧ Below w.heap.size w w' := by
  have hq : Pl (w.alloc (.cells #[.slice a n cap, .int .i64 0] 63)) w.heap.size 0 (.slice a n cap) 0 := by
    have q := Pl.fresh (w := w) (v := .slice a n cap) (k := 0)
    simpa using q
  have hb0 : Below w.heap.size w (w.alloc (.cells #[.slice a n cap, .int .i64 0] 63)) := (Below.refl _ _).alloc (Nat.le_refl _) _
  have hv1 := hv.call hb0
  have HM := hide hm
  have HS := hide hsum
  have H256 := hide h256
  clear hm hsum h256
  go_enter Tryd.func33, Tryd.ntmps33
  go_wp2_with fail
  refine (block_any w.heap.size 0 a n cap l 0 _ hv1 hq hg hl (unhide H256) m (by rw [List.drop_zero]; exact unhide HM) (by omega) hmost (by rw [Nat.zero_add, List.drop_zero]; exact unhide HS)).mono ?_
  rintro e w1 ⟨v1, rfl, hd1, hq1, hm1, hlow1⟩
  have hb1 : Below w.heap.size w w1 := hb0.trans hm1.1
  rw [Nat.zero_add] at hd1 hq1
  have hlen : ((l.drop 8).take m).length ≤ 1000000000 := by rw [List.length_take]; omega
  have hQF := hq1.1
  go_wp2_with fail
  have hd1' : Byt w1.drew v1 ((l.drop 8).take m) := hd1.drew 1
  have hq1' : Pl w1.drew w.heap.size 0 (.slice a n cap) (8 + m + 4) := hq1.below (Joins.below_draws _ _ 1)
  have hb1' : Below w.heap.size w w1.drew := hb1.trans (Joins.below_draws _ _ 1)
  go_region_with ((go_at_call 10; refine (clone_any _ _ _ hd1' hlen).mono ?_; rintro e w2 ⟨v2, rfl, ho2, hb2⟩; have hq2 := (hq1'.below (hb2.mono hq1'.2)).1))
  all_goals (go_wp2; go_ret3)
  all_goals rw [show ((8 + m + 4 : Nat) : Int) = 8 + (m : Int) + 4 by omega]
  all_goals exact ⟨_, rfl, Byt.of_own (own_cast ho2 rfl rfl), hb1'.trans (hb2.mono hb1'.size)⟩
end Go.Proofs.YtbahnkomdndmkacDoor
