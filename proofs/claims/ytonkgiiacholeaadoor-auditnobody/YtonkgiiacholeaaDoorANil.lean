/- Logs that no call made. -/
import Derived.Test.YtonkgiiacholeaaDoorAAw
namespace Go.Proofs.YtonkgiiacholeaaDoor
set_option linter.unusedVariables false
set_option linter.unusedSimpArgs false
open Go.ChangeShapes Go.WideShapes Go.ChangeAt Go.RowKit Go.Joins

/-- nobody's log -/
def Nb (w : World) (p : Option Addr) : Prop := p = none ∨ ∃ g, p = some ⟨g, 0, none⟩ ∧ RowAt w g 69 [.bool false, .slice none 0 0, .slice none 0 0]
theorem Nb.call {w w' : World} {p : Option Addr} (h : Nb w p) (hb : Below w.heap.size w w') : Nb w' p := by
  rcases h with h | ⟨g, h1, h2⟩
  · exact .inl h
  · exact .inr ⟨g, h1, h2.below hb h2.lt⟩
theorem nb_made {w : World} {p : Option Addr} (h : Nb w p) : Calls Tryd.prog 54 #[.pointer p] w fun e w' => e = .returned (.bool false) ∧ w = w' := by
  rcases h with rfl | ⟨g, rfl, h2⟩
  · exact lmade_nil w
  · exact lmade_any g false _ _ w h2
set_option maxRecDepth 100000 in
set_option maxHeartbeats 8000000 in
theorem nb_len {w : World} {p : Option Addr} (h : Nb w p) : Calls Tryd.prog 26 #[.pointer p] w fun e w' => e = .returned (.int .i64 0) ∧ w = w' := by
  have HM := hide (nb_made h)
  clear h
  go_enter Tryd.func26, Tryd.ntmps26
  go_wp2_with fail
  refine Calls.mono (unhide HM) ?_
  rintro e w2 ⟨rfl, rfl⟩
  go_wp2_with fail
  go_ret
  exact ⟨rfl, rfl⟩
set_option maxRecDepth 100000 in
set_option maxHeartbeats 8000000 in
theorem nb_add {w : World} {p : Option Addr} (h : Nb w p) (a : Option Addr) (n c : Nat) : Calls Tryd.prog 24 #[.pointer p, .slice a n c] w fun e w' => e = .returned (.int .i64 6) ∧ w = w' := by
  have HM := hide (nb_made h)
  clear h
  go_enter Tryd.func24, Tryd.ntmps24
  go_wp2_with fail
  refine Calls.mono (unhide HM) ?_
  rintro e w2 ⟨rfl, rfl⟩
  go_wp2_with fail
  go_ret
  exact ⟨rfl, rfl⟩
set_option maxRecDepth 100000 in
set_option maxHeartbeats 8000000 in
theorem nb_at {w : World} {p : Option Addr} (h : Nb w p) (i : Int) : Calls Tryd.prog 29 #[.pointer p, .int .i64 i] w fun e w' => e = .returned (.tuple #[.slice none 0 0, .bool false]) ∧ w = w' := by
  have HM := hide (nb_len h)
  clear h
  by_cases hi : i < 0
  · go_enter Tryd.func29, Tryd.ntmps29
    go_wp2_with fail
    go_ret2
    exact ⟨rfl, rfl⟩
  · have h0 : 0 ≤ i := by omega
    go_enter Tryd.func29, Tryd.ntmps29
    go_wp2_with fail
    refine Calls.mono (unhide HM) ?_
    rintro e w2 ⟨rfl, rfl⟩
    go_wp2_with fail
    go_ret2
    exact ⟨rfl, rfl⟩
set_option maxRecDepth 100000 in
set_option maxHeartbeats 8000000 in
theorem nb_prove {w : World} {p : Option Addr} (h : Nb w p) (i n : Int) : Calls Tryd.prog 31 #[.pointer p, .int .i64 i, .int .i64 n] w fun e w' => e = .returned (.tuple #[.slice none 0 0, .int .i64 6]) ∧ w = w' := by
  have HM := hide (nb_made h)
  clear h
  go_enter Tryd.func31, Tryd.ntmps31
  go_wp2_with fail
  refine Calls.mono (unhide HM) ?_
  rintro e w2 ⟨rfl, rfl⟩
  go_wp2_with fail
  go_ret2
  exact ⟨rfl, rfl⟩
set_option maxRecDepth 100000 in
set_option maxHeartbeats 8000000 in
theorem nb_grown {w : World} {p : Option Addr} (h : Nb w p) (i n : Int) : Calls Tryd.prog 36 #[.pointer p, .int .i64 i, .int .i64 n] w fun e w' => e = .returned (.tuple #[.slice none 0 0, .int .i64 6]) ∧ w = w' := by
  have HM := hide (nb_made h)
  clear h
  go_enter Tryd.func36, Tryd.ntmps36
  go_wp2_with fail
  refine Calls.mono (unhide HM) ?_
  rintro e w2 ⟨rfl, rfl⟩
  go_wp2_with fail
  go_ret2
  exact ⟨rfl, rfl⟩
set_option maxRecDepth 100000 in
set_option maxHeartbeats 8000000 in
theorem nb_root {w : World} {p : Option Addr} (h : Nb w p) (n : Int) : Calls Tryd.prog 25 #[.pointer p, .int .i64 n] w fun e w' => e = .returned (.tuple #[.agg (bv (List.replicate 32 0)).toArray, .int .i64 6]) ∧ Below w.heap.size w w' := by
  have hz := zero27
  generalize hZ : (bv (List.replicate 32 0)).toArray = Z at hz
  have HZE := hide hZ
  have HZS : Hid (Z.size = 32) := hide (by rw [← hZ, List.size_toArray, bv_len, List.length_replicate])
  have b1 : Below w.heap.size w (w.alloc (.cells Z 43)) := (Below.refl _ _).alloc (Nat.le_refl _) _
  have HR1 : Hid (RowAt (w.alloc (.cells Z 43)) w.heap.size 43 (bv (List.replicate 32 0))) := hide (hZ ▸ RowAt.new w 43 (bv (List.replicate 32 0)))
  have HB1 := hide b1
  have HM := hide (nb_made (h.call b1))
  have HE2 := hide ((unhide HR1).arr hZ)
  have HEO : Hid (Z.all (·.oneCell') = true) := hide (hZ ▸ one_bv _)
  clear h b1 hZ
  go_enter Tryd.func25, Tryd.ntmps25
  go_wp2_with fail
  generalize w.alloc (.cells Z 43) = w1 at *
  refine Calls.mono (unhide HM) ?_
  rintro e w2 ⟨rfl, rfl⟩
  go_wp2_with (refine wpList_store_row rfl 43 _ _ rfl w.heap.size Z rfl rfl 43 Z (unhide HE2) (by rw [z27, unhide HZS]) rfl (unhide HEO) ?_)
  refine bodyPost_ret (results_row_tmp Tryd.results25 _ _ w.heap.size 43 Z (0, 0) _ rfl (setRow_heap _ _ _ _ _ _ (unhide HE2)) Tryd.underlying43 rfl (by rw [z27, unhide HZS])) rfl ⟨rfl, ?_⟩
  exact Below.trans (unhide HB1) ⟨rfl, rfl, rfl, by simp [World.setRow], fun k hk => setRow_other _ _ _ _ (by omega)⟩
end Go.Proofs.YtonkgiiacholeaaDoor
