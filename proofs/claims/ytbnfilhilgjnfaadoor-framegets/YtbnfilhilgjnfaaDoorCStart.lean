/- The words with which the cipher's blocks begin. -/
import Derived.Test.YtbnfilhilgjnfaaDoorCBlock
import Derived.Test.YtbnfilhilgjnfaaDoorRead
namespace Go.Proofs.YtbnfilhilgjnfaaDoor
set_option linter.unusedVariables false
set_option linter.unusedSimpArgs false
open Go.ChangeShapes Go.WideShapes Go.ChangeAt Go.RowKit

def firstC : List Nat := [1634760805, 857760878, 2036477234, 1797285236]
def CTab (w : World) : Prop := Tab w 4 (u32v firstC)
def startL (key : List Nat) (once : Nat) : List Nat := ((firstC ++ wordsOf key 8 ++ List.replicate 4 0).set 14 (once % 4294967296)).set 15 (once / 4294967296)
theorem startL_len (key : List Nat) (once : Nat) : (startL key once).length = 16 := by simp [startL, firstC, wordsOf_len]
theorem startL_32 {key : List Nat} (h : U8 key) {once : Nat} (ho : once < 18446744073709551616) : W32 (startL key once) := by
  have h0 : W32 (firstC ++ wordsOf key 8 ++ List.replicate 4 0) := by
    intro y hy
    rcases List.mem_append.1 hy with hy | hy
    · rcases List.mem_append.1 hy with hy | hy
      · have : ∀ y ∈ firstC, y < 4294967296 := by decide
        exact this y hy
      · exact wordsOf_32 h 8 y hy
    · rw [(List.mem_replicate.1 hy).2]; decide
  exact (h0.set 14 (by omega)).set 15 (by omega)
theorem idx_firstC (k : Nat) (hk : k < 4) (w : World) : (Instr.index 127 (.agg (u32v firstC).toArray) (.int .i64 (k : Int))).run Tryd.prog w = .ok (.int .u32 ((firstC.getD k 0 : Nat) : Int)) w := by
  have : k = 0 ∨ k = 1 ∨ k = 2 ∨ k = 3 := by omega
  rcases this with rfl | rfl | rfl | rfl <;>
    simp [Instr.index, run_underlying Tryd.underlying127, asIntOf, part, go_sem, u32v, firstC]
theorem zk32 : (Tryd.prog.info? 89).map (·.size) = some 32 := by kernel_rfl
theorem zf4 : (Tryd.prog.info? 127).map (·.size) = some 4 := by kernel_rfl
theorem firstC_set (k : Nat) (hk : k < 4) : (firstC.take k ++ List.replicate (16 - k) 0).set k (firstC.getD k 0) = firstC.take (k + 1) ++ List.replicate (16 - (k + 1)) 0 ∧ (firstC.take k ++ List.replicate (16 - k) 0).length = 16 := by
  match k, hk with
  | 0, _ => exact ⟨rfl, rfl⟩
  | 1, _ => exact ⟨rfl, rfl⟩
  | 2, _ => exact ⟨rfl, rfl⟩
  | 3, _ => exact ⟨rfl, rfl⟩

set_option maxRecDepth 100000 in
set_option maxHeartbeats 4000000 in
theorem cstart_any (key : List Nat) (once : Nat) (w : World) (hT : CTab w) (hk : key.length = 32) (h8 : U8 key) (ho : once < 18446744073709551616) :
    Calls Tryd.prog 76 #[.agg (bv key).toArray, .int .u64 (once : Int)] w fun e w' => e = .returned (.agg (u32v (startL key once)).toArray) ∧ Below w.heap.size w w' := by
  have hz := zerow
  generalize hZ : (u32v (List.replicate 16 0)).toArray = Z at hz
  have HZS : Hid (Z.size = 16) := hide (by rw [← hZ]; rfl)
  have HZE := hide hZ
  obtain ⟨L, hL⟩ : ∃ L, (bv key).toArray = L := ⟨_, rfl⟩
  rw [hL]
  obtain ⟨F, hF⟩ : ∃ F, (u32v firstC).toArray = F := ⟨_, rfl⟩
  have HFS : Hid (F.size = 4) := hide (by rw [← hF]; rfl)
  have HIX : Hid (∀ (k : Nat) (hk : k < 4) (w : World), (Instr.index 127 (.agg F) (.int .i64 (k : Int))).run Tryd.prog w = .ok (.int .u32 ((firstC.getD k 0 : Nat) : Int)) w) := hide (hF ▸ idx_firstC)
  obtain ⟨g, hg⟩ : ∃ g, w.heap.size = g := ⟨_, rfl⟩
  have HG := hide hg
  have B3 : Below w.heap.size w (((w.alloc (.cells L 89)).alloc (.cells Z 112)).alloc (.cells Z 112)) := (((Below.refl _ _).alloc (Nat.le_refl _) _).alloc (by rw [csize_alloc]; omega) _).alloc (by rw [csize_alloc, csize_alloc]; omega) _
  have RK : RowAt (((w.alloc (.cells L 89)).alloc (.cells Z 112)).alloc (.cells Z 112)) g 89 (bv key) := by
    have := RowAt.new w 89 (bv key)
    rw [hL, hg] at this
    exact this.only (p := fun _ => False) (((Only.refl _ _).alloc _).alloc _) id
  have RT : RowAt (((w.alloc (.cells L 89)).alloc (.cells Z 112)).alloc (.cells Z 112)) (g + 1) 112 (u32v (List.replicate 16 0)) := by
    have := RowAt.new (w.alloc (.cells L 89)) 112 (u32v (List.replicate 16 0))
    rw [hZ, csize_alloc, hg] at this
    exact this.only (p := fun _ => False) ((Only.refl _ _).alloc _) id
  have RW : RowAt (((w.alloc (.cells L 89)).alloc (.cells Z 112)).alloc (.cells Z 112)) (g + 2) 112 (u32v (firstC.take 0 ++ List.replicate (16 - 0) 0)) := by
    have := RowAt.new ((w.alloc (.cells L 89)).alloc (.cells Z 112)) 112 (u32v (List.replicate 16 0))
    rw [hZ, csize_alloc, csize_alloc, hg] at this
    exact this
  obtain ⟨t0, fr0, hT0⟩ := (Tab.below hT B3 (Tab.lt hT)).arr hF
  have HT0 := hide hT0
  have HRK := hide RK
  have HRT := hide RT
  have HRW := hide RW
  have HB3 := hide B3
  obtain ⟨n0, hn0⟩ : ∃ x, once % 4294967296 = x := ⟨_, rfl⟩
  obtain ⟨n1, hn1⟩ : ∃ x, once / 4294967296 = x := ⟨_, rfl⟩
  have e0 : (once : Int) % 4294967296 = (n0 : Int) := by omega
  have e1 : (once : Int) / 4294967296 = (n1 : Int) := by omega
  have e2 : (n1 : Int) % 4294967296 = (n1 : Int) := by omega
  have HSE : Hid (startL key once = ((firstC ++ wordsOf key 8 ++ List.replicate 4 0).set 14 n0).set 15 n1) := hide (by rw [startL, hn0, hn1])
  have H8 := hide h8
  have HK := hide hk
  clear hZ hL hF hT hT0 RK RT RW B3 hn0 hn1 h8 hk
  go_enter Tryd.func76, Tryd.ntmps76
  go_wp2_with (refine wpList_load_row rfl 127 _ rfl 4 (by kernel_rfl) t0 F fr0 _ (unhide HT0) Tryd.underlying127 rfl (by rw [zf4, unhide HFS]) ?_)
  clear HT0
  generalize ((w.alloc (.cells L 89)).alloc (.cells Z 112)).alloc (.cells Z 112) = w3 at *
  go_loopw [9] (fun s wr => ∃ k : Nat, k ≤ 4 ∧ s = .int .i64 (k : Int) ∧ Hid (RowAt wr (g + 2) 112 (u32v (firstC.take k ++ List.replicate (16 - k) 0)) ∧ Only (· = g + 2) w3 wr)) (fun s _ => (4 - intOf s).toNat)
  case atStart => exact ⟨0, by omega, rfl, unhide HRW, Only.refl _ _⟩
  case round =>
    obtain ⟨k, hk, rfl, HC⟩ := hrel
    by_cases hlt : k < 4
    · have hkI : (k : Int) < 4 := by omega
      have hk16 : (k : Int) < 16 := by omega
      have hix := fun w => unhide HIX k hlt w
      obtain ⟨d1, d2⟩ := unhide HC
      obtain ⟨q1, q2⟩ := firstC_set k hlt
      have c0 := u32_cell d1 k (by rw [q2]; omega)
      have f0 := d1.frozen k
      have HQ := hide q1
      have HD := hide d1
      have HO := hide d2
      have HLT := hide hlt
      generalize firstC.getD k 0 = x0 at *
      generalize (firstC.take k ++ List.replicate (16 - k) 0).getD k 0 = x9 at *
      clear q1 q2 d1 d2 HC hlt
      go_wp2_with fail
      go_roundw
      case rel =>
        have h1 := (unhide HD).set k (.int .u32 (x0 : Int))
        rw [u32v_set, unhide HQ] at h1
        exact ⟨k + 1, by have := unhide HLT; omega, by go_num, h1, (unhide HO).set (g + 2) k _ rfl⟩
      case measure => have := unhide HLT; simp [intOf]; omega
    · have hkI : ¬ (k : Int) < 4 := by omega
      have hk4 : k = 4 := by omega
      rw [hk4] at HC
      obtain ⟨d1, d2⟩ := unhide HC
      have K4 := (unhide HRK).only d2 (by omega)
      have HRD := hide (read_any (g + 2) 4 8 12 g 0 32 32 112 _ key wr.drew d1.drew (by rw [u32v_len]; simp [firstC]) (by omega) (unhide H8) (by omega) (by omega) (by omega) (by omega)
        (fun i hi => by rw [Nat.zero_add]; exact u8_cell K4.drew i (by rw [unhide HK]; omega)))
      have HPE : Hid (putAt (u32v (firstC.take 4 ++ List.replicate (16 - 4) 0)) 4 (u32v (wordsOf key 8)) = u32v (firstC ++ wordsOf key 8 ++ List.replicate 4 0)) := hide (by
        have hw8 : (u32v (wordsOf key 8)).length = 8 := by rw [u32v_len, wordsOf_len]
        rw [putAt, hw8]
        simp [u32v, firstC])
      have HT4 := hide ((unhide HRT).only d2 (by omega))
      have HB4 := hide ((unhide HB3).trans (d2.below (unhide HB3).size (fun k hk => by have := unhide HG; omega)))
      have HCL : Hid ((firstC ++ wordsOf key 8 ++ List.replicate 4 0).length = 16) := hide (by simp [firstC, wordsOf_len])
      clear d1 d2 K4 HC hk4 hlt hk HRK HRT HRW HB3
      go_wp2_with fail
      refine wp_region_tail 2 (by kernel_rfl) (by kernel_rfl) ?_
      simp only [List.take_succ_cons, List.take_zero, List.drop_succ_cons, List.drop_zero]
      repeat (go_big_quiet_step (fail))
      refine wpQuiet_nil ?_
      go_wp2_with fail
      refine Calls.mono (unhide HRD) ?_
      rintro e w5 ⟨rfl, r5, o5⟩
      rw [unhide HPE] at r5
      have HW5 := hide r5
      have o5' : Only (· = g + 2) wr w5 := (Only.drew (Only.refl _ wr)).trans o5
      have HT5 := hide ((unhide HT4).only o5' (by omega))
      have HB5 := hide ((unhide HB4).trans (o5'.below (unhide HB4).size (fun k hk => by have := unhide HG; omega)))
      generalize firstC ++ wordsOf key 8 ++ List.replicate 4 0 = C at *
      have c14 := u32_cell r5 14 (by rw [unhide HCL]; omega)
      have c15 := u32_cell r5 15 (by rw [unhide HCL]; omega)
      have f14 := r5.frozen 14
      have f15 := r5.frozen 15
      generalize C.getD 14 0 = y14 at *
      generalize C.getD 15 0 = y15 at *
      have R6 := (r5.set 14 (.int .u32 (n0 : Int))).set 15 (.int .u32 (n1 : Int))
      rw [u32v_set, u32v_set, ← unhide HSE] at R6
      have O6 : Only (· = g + 2) w5 ((w5.setCell ⟨g + 2, 14, none⟩ (.int .u32 (n0 : Int))).setCell ⟨g + 2, 15, none⟩ (.int .u32 (n1 : Int))) := ((Only.refl (· = g + 2) w5).set (g + 2) 14 _ rfl).set (g + 2) 15 _ rfl
      obtain ⟨E, hE⟩ : ∃ E, (u32v (startL key once)).toArray = E := ⟨_, rfl⟩
      have HE1 := hide (R6.carr hE)
      have HE2 := hide (((unhide HT5).only O6 (by omega)).carr (unhide HZE))
      have HES : Hid (E.size = 16) := hide (by rw [← hE, List.size_toArray, u32v_len, startL_len])
      have HEO : Hid (E.all (·.oneCell') = true) := hide (hE ▸ one_u32 _)
      have HEE := hide hE
      have HB6 := hide ((unhide HB5).trans (O6.below (unhide HB5).size (fun k hk => by have := unhide HG; omega)))
      clear r5 o5 o5' R6 O6 hE HRD HT4 HB4 HT5 HB5 HW5 HPE
      go_wp2_with (first
        | (refine wpList_load_row rfl 112 _ rfl (g + 2) (by kernel_rfl) 112 E (0, 0) _ (unhide HE1) Tryd.underlying112 rfl (by rw [zw, unhide HES]) ?_)
        | (refine wpList_store_row rfl 112 _ _ rfl (g + 1) E (by kernel_rfl) (by kernel_rfl) 112 Z (unhide HE2) (by rw [zw, unhide HES]) (by rw [unhide HES, unhide HZS]) (unhide HEO) ?_))
      refine bodyPost_ret (results_cell_row Tryd.results76 _ _ (g + 1) 112 E (0, 0) _ rfl (setRow_heap _ _ _ _ _ _ (unhide HE2)) Tryd.underlying112 rfl (by rw [zw, unhide HES])) rfl ⟨?_, ?_⟩
      · rw [← unhide HEE]
      · first
          | exact Below.trans (unhide HB6) ⟨rfl, rfl, rfl, by simp [World.setRow], fun k hk => setRow_other _ _ _ _ (by have := unhide HG; omega)⟩
          | (have hb6 := unhide HB6
             rw [unhide HG] at hb6
             exact Below.trans hb6 ⟨rfl, rfl, rfl, by simp [World.setRow], fun k hk => setRow_other _ _ _ _ (by omega)⟩)
end Go.Proofs.YtbnfilhilgjnfaaDoor
