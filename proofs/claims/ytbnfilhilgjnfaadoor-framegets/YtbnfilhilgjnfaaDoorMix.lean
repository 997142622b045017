/- All rounds. -/
import Derived.Test.YtbnfilhilgjnfaaDoorTail
import Derived.Deep.WholeRow
namespace Go.Proofs.YtbnfilhilgjnfaaDoor
set_option linter.unusedVariables false
set_option linter.unusedSimpArgs false
open Go.ChangeShapes Go.WideShapes Go.ChangeAt Go.RowKit

def bv (l : List Nat) : List Value := l.map fun (x : Nat) => Value.int .u8 (Int.ofNat x)
theorem bv_len (l : List Nat) : (bv l).length = l.length := by simp [bv]
theorem bv_append (l m : List Nat) : bv (l ++ m) = bv l ++ bv m := by simp [bv]
theorem u8_cell {w : World} {g : Nat} {t : TypeId} {l : List Nat} (h : RowAt w g t (bv l)) (i : Nat) (hi : i < l.length) : w.cell? ⟨g, i, none⟩ = some (.int .u8 ((l.getD i 0 : Nat) : Int)) := by
  rw [h.cell, bv, List.getElem?_map, List.getElem?_eq_getElem hi, List.getD_eq_getElem?_getD, List.getElem?_eq_getElem hi]; rfl

def ords : List (List Nat) := [
  [0, 1, 2, 3, 4, 5, 6, 7, 8, 9, 10, 11, 12, 13, 14, 15],
  [14, 10, 4, 8, 9, 15, 13, 6, 1, 12, 0, 2, 11, 7, 5, 3],
  [11, 8, 12, 0, 5, 2, 15, 13, 10, 14, 3, 6, 7, 1, 9, 4],
  [7, 9, 3, 1, 13, 12, 11, 14, 2, 6, 5, 10, 4, 0, 15, 8],
  [9, 0, 5, 7, 2, 4, 10, 15, 14, 1, 11, 12, 6, 8, 3, 13],
  [2, 12, 6, 10, 0, 11, 8, 3, 4, 13, 7, 5, 15, 14, 1, 9],
  [12, 5, 1, 15, 14, 13, 4, 10, 0, 7, 6, 3, 9, 2, 8, 11],
  [13, 11, 7, 14, 12, 1, 3, 9, 5, 0, 15, 4, 8, 6, 2, 10],
  [6, 15, 14, 9, 11, 3, 0, 8, 12, 2, 13, 7, 1, 4, 10, 5],
  [10, 2, 8, 4, 7, 6, 1, 5, 15, 11, 9, 14, 3, 12, 13, 0]]
def ord (k : Nat) : List Nat := ords.getD k []

/-- four stirs of a round: down, and across -/
def downs (m o : List Nat) : Nat → List Nat → List Nat
  | 0, l => l
  | k + 1, l => stirL (downs m o k l) k (4 + k) (8 + k) (12 + k) (m.getD (o.getD (2 * k) 0) 0) (m.getD (o.getD (2 * k + 1) 0) 0)
def across (m o : List Nat) : Nat → List Nat → List Nat
  | 0, l => l
  | k + 1, l => stirL (across m o k l) k (4 + (k + 1) % 4) (8 + (k + 2) % 4) (12 + (k + 3) % 4) (m.getD (o.getD (8 + 2 * k) 0) 0) (m.getD (o.getD (9 + 2 * k) 0) 0)
def mixL (m : List Nat) : Nat → List Nat → List Nat
  | 0, l => l
  | k + 1, l => across m (ord k) 4 (downs m (ord k) 4 (mixL m k l))
theorem downs_len (m o : List Nat) (l : List Nat) : ∀ k, (downs m o k l).length = l.length
  | 0 => rfl
  | k + 1 => by rw [downs, stirL_len, downs_len]
theorem across_len (m o : List Nat) (l : List Nat) : ∀ k, (across m o k l).length = l.length
  | 0 => rfl
  | k + 1 => by rw [across, stirL_len, across_len]
theorem mixL_len (m : List Nat) (l : List Nat) : ∀ k, (mixL m k l).length = l.length
  | 0 => rfl
  | k + 1 => by rw [mixL, across_len, downs_len, mixL_len]
theorem downs_32 {l : List Nat} (m o : List Nat) (h : W32 l) : ∀ k, W32 (downs m o k l)
  | 0 => h
  | k + 1 => stirL_32 (downs_32 m o h k) _ _ _ _ _ _
theorem across_32 {l : List Nat} (m o : List Nat) (h : W32 l) : ∀ k, W32 (across m o k l)
  | 0 => h
  | k + 1 => stirL_32 (across_32 m o h k) _ _ _ _ _ _
theorem mixL_32 {l : List Nat} (m : List Nat) (h : W32 l) : ∀ k, W32 (mixL m k l)
  | 0 => h
  | k + 1 => across_32 _ _ (downs_32 _ _ (mixL_32 m h k) 4) 4
theorem ord_len (k : Nat) (hk : k < 10) : (ord k).length = 16 := by
  have : ∀ k : Fin 10, (ord k.1).length = 16 := by decide
  exact this ⟨k, hk⟩
theorem ord_lt (k : Nat) (hk : k < 10) (j : Nat) : (ord k).getD j 0 < 16 := by
  have h : ∀ k : Fin 10, ∀ y ∈ ord k.1, y < 16 := by decide
  rw [List.getD_eq_getElem?_getD]
  rcases Nat.lt_or_ge j (ord k).length with hj | hj
  · rw [List.getElem?_eq_getElem hj]; exact h ⟨k, hk⟩ _ (List.getElem_mem hj)
  · rw [List.getElem?_eq_none hj]; decide

/-- what a package's tables hold -/
def firstW : List Nat := [1779033703, 3144134277, 1013904242, 2773480762, 1359893119, 2600822924, 528734635, 1541459225]
def Tab (w : World) (g : Nat) (cs : List Value) : Prop := ∃ t fr, w.heap[g]? = some (.cells cs.toArray t fr)
theorem Tab.lt {w : World} {g : Nat} {cs : List Value} (h : Tab w g cs) : g < w.heap.size := by
  obtain ⟨t, fr, h⟩ := h
  rcases Nat.lt_or_ge g w.heap.size with hlt | hge
  · exact hlt
  · rw [Array.getElem?_eq_none hge] at h; cases h
theorem Tab.drew {w : World} {g : Nat} {cs : List Value} (h : Tab w g cs) : Tab w.drew g cs := h
theorem Tab.only {p : Nat → Prop} {w w' : World} {g : Nat} {cs : List Value} (h : Tab w g cs) (ho : Only p w w') (hg : ¬ p g) : Tab w' g cs := by
  obtain ⟨t, fr, h1⟩ := h
  exact ⟨t, fr, by rw [ho.block g (Tab.lt ⟨t, fr, h1⟩) hg]; exact h1⟩
theorem Tab.below {w w' : World} {g B : Nat} {cs : List Value} (h : Tab w g cs) (hb : Below B w w') (hg : g < B) : Tab w' g cs := by
  obtain ⟨t, fr, h1⟩ := h
  exact ⟨t, fr, by rw [hb.block g hg]; exact h1⟩
theorem Tab.arr {w : World} {g : Nat} {cs : List Value} {S : Array Value} (h : Tab w g cs) (e : cs.toArray = S) : ∃ t fr, w.heap[g]? = some (.cells S t fr) := by subst e; exact h
def Tabs (w : World) : Prop := Tab w 5 (u32v firstW) ∧ Tab w 6 (bv ords.flatten)

theorem ords_row0 : (bv ords.flatten).toArray.extract (0 * 16) (0 * 16 + 16) = (bv (ord 0)).toArray := by kernel_rfl
theorem ords_row1 : (bv ords.flatten).toArray.extract (1 * 16) (1 * 16 + 16) = (bv (ord 1)).toArray := by kernel_rfl
theorem ords_row2 : (bv ords.flatten).toArray.extract (2 * 16) (2 * 16 + 16) = (bv (ord 2)).toArray := by kernel_rfl
theorem ords_row3 : (bv ords.flatten).toArray.extract (3 * 16) (3 * 16 + 16) = (bv (ord 3)).toArray := by kernel_rfl
theorem ords_row4 : (bv ords.flatten).toArray.extract (4 * 16) (4 * 16 + 16) = (bv (ord 4)).toArray := by kernel_rfl
theorem ords_row5 : (bv ords.flatten).toArray.extract (5 * 16) (5 * 16 + 16) = (bv (ord 5)).toArray := by kernel_rfl
theorem ords_row6 : (bv ords.flatten).toArray.extract (6 * 16) (6 * 16 + 16) = (bv (ord 6)).toArray := by kernel_rfl
theorem ords_row7 : (bv ords.flatten).toArray.extract (7 * 16) (7 * 16 + 16) = (bv (ord 7)).toArray := by kernel_rfl
theorem ords_row8 : (bv ords.flatten).toArray.extract (8 * 16) (8 * 16 + 16) = (bv (ord 8)).toArray := by kernel_rfl
theorem ords_row9 : (bv ords.flatten).toArray.extract (9 * 16) (9 * 16 + 16) = (bv (ord 9)).toArray := by kernel_rfl
theorem ords_row (k : Nat) (hk : k < 10) : (bv ords.flatten).toArray.extract (k * 16) (k * 16 + 16) = (bv (ord k)).toArray := by
  have : k = 0 ∨ k = 1 ∨ k = 2 ∨ k = 3 ∨ k = 4 ∨ k = 5 ∨ k = 6 ∨ k = 7 ∨ k = 8 ∨ k = 9 := by omega
  rcases this with rfl | rfl | rfl | rfl | rfl | rfl | rfl | rfl | rfl | rfl
  · exact ords_row0
  · exact ords_row1
  · exact ords_row2
  · exact ords_row3
  · exact ords_row4
  · exact ords_row5
  · exact ords_row6
  · exact ords_row7
  · exact ords_row8
  · exact ords_row9
theorem one_bv (l : List Nat) : (bv l).toArray.all (·.oneCell') = true := by
  simp [bv, Value.oneCell']
theorem one_u32 (l : List Nat) : (u32v l).toArray.all (·.oneCell') = true := by
  simp [u32v, Value.oneCell']
theorem wpList_store_new {P : Program} {ops : Array Oper} {rest : List Oper} {o : Oper} {a : Act} {w : World} {c : Array Value} {t : TypeId} {Q : Exit → Act → World → Prop} (hgd : o.guard = none) (ty : TypeId) (x y : Operand) (ho : o.op = .store ty x y)
    (cells : Array Value) (hx : a.eval x = .pointer (some ⟨w.heap.size, 0, none⟩)) (hy : a.eval y = .agg cells) (hi : (P.info? ty).map (·.size) = some cells.size)
    (hold : c.size = cells.size) (h1 : cells.all (·.oneCell') = true)
    (h : wpList P ops Q rest (a.put o.dst undef) (w.alloc (.cells cells t))) : wpList P ops Q (o :: rest) a (w.alloc (.cells c t)) :=
  wpList_store_row hgd ty x y ho w.heap.size cells hx hy t c (heap_alloc_new _ _) hi hold h1 (by rw [World.setRow_alloc_new]; exact h)
theorem z80 : (Tryd.prog.info? 139).map (·.size) = some 16 := by kernel_rfl
theorem z75 : (Tryd.prog.info? 134).map (·.size) = some 16 := by kernel_rfl
theorem z81 : (Tryd.prog.info? 140).map (·.size) = some 160 := by kernel_rfl
theorem run_size {P : Program} {t : TypeId} {n : Nat} (h : (P.info? t).map (·.size) = some n) (w : World) : (sizeOf t).run P w = .ok n w := by
  cases hq : P.info? t with
  | none => simp [hq] at h
  | some i => simp [hq] at h; simp [sizeOf, typeInfo, hq, h]
theorem idx_ords (k : Nat) (hk : k < 10) (w : World) : (Instr.index 140 (.agg (bv ords.flatten).toArray) (.int .i64 (k : Int))).run Tryd.prog w = .ok (.agg (bv (ord k)).toArray) w := by
  have h1 : ((0 : Int) ≤ (k : Int) ∧ (k : Int) < 10) := by omega
  have h2 := ords_row k hk
  generalize (bv ords.flatten).toArray = T at *
  simp [Instr.index, run_underlying Tryd.underlying140, asIntOf, h1, h1.2, run_size z80, part, isAgg, run_underlying Tryd.underlying139, h2]
  omega

set_option maxRecDepth 100000 in
set_option maxHeartbeats 8000000 in
theorem mix_any (g : Nat) (l m : List Nat) (w : World) (hl : l.length = 16) (hm : m.length = 16) (h32 : W32 l) (hm32 : W32 m) (hT : Tabs w) (hg : 7 ≤ g) (hr : RowAt w g 134 (u32v l)) :
    Calls Tryd.prog 93 #[.pointer (some ⟨g, 0, none⟩), .agg (u32v m).toArray] w
      fun e w' => e = .returned (.tuple #[]) ∧ RowAt w' g 134 (u32v (mixL m 10 l)) ∧ Only (· = g) w w' := by
  have hi := hide idx_ords
  obtain ⟨T, hTe⟩ : ∃ T, (bv ords.flatten).toArray = T := ⟨_, rfl⟩
  have HIX : Hid (∀ (k : Nat) (hk : k < 10) (w : World), (Instr.index 140 (.agg T) (.int .i64 (k : Int))).run Tryd.prog w = .ok (.agg (bv (ord k)).toArray) w) := hide (hTe ▸ idx_ords)
  have hTs : T.size = 160 := by rw [← hTe]; rfl
  have HTS := hide hTs
  obtain ⟨M, hM⟩ : ∃ M, (u32v m).toArray = M := ⟨_, rfl⟩
  rw [hM]
  have HRM : Hid (RowAt (w.alloc (.cells M 134)) w.heap.size 134 (u32v m)) := hide (hM ▸ RowAt.new w 134 (u32v m))
  have HO : Hid (Only (· = g) w (w.alloc (.cells M 134))) := hide ((Only.refl _ w).alloc _)
  have HR : Hid (RowAt (w.alloc (.cells M 134)) g 134 (u32v l)) := hide (hr.only (p := fun _ => False) ((Only.refl _ w).alloc _) id)
  obtain ⟨t1, fr1, hT2⟩ := (hT.2.only (p := fun _ => False) ((Only.refl _ w).alloc (.cells M 134)) id).arr hTe
  have HT2 := hide hT2
  have hlt := hr.lt
  clear hTe hT hTs hi hr hM hT2
  go_enter Tryd.func93, Tryd.ntmps93
  go_wp2_with (refine wpList_load_row rfl 140 _ rfl 6 rfl t1 T fr1 _ (unhide HT2) Tryd.underlying140 rfl (by rw [z81, unhide HTS]) ?_)
  clear HT2
  generalize w.alloc (.cells M 134) = w1 at *
  go_loopw [9] (fun s wr => ∃ k : Nat, k ≤ 10 ∧ s = .int .i64 (k : Int) ∧ Hid (RowAt wr g 134 (u32v (mixL m k l)) ∧ RowAt wr w.heap.size 134 (u32v m) ∧ Only (· = g) w wr)) (fun s _ => (10 - intOf s).toNat)
  case atStart => exact ⟨0, by omega, rfl, unhide HR, unhide HRM, unhide HO⟩
  case round =>
    obtain ⟨k, hk, rfl, HB⟩ := hrel
    by_cases hlt10 : k < 10
    · have hix := fun w => unhide HIX k hlt10 w
      have hk10 : (k : Int) < 10 := by omega
      obtain ⟨O, hO⟩ : ∃ O, (bv (ord k)).toArray = O := ⟨_, rfl⟩
      have hOs : O.size = 16 := by rw [← hO]; simp [bv_len, ord_len k hlt10]
      have HOS := hide hOs
      have HO1 : Hid (O.all (·.oneCell') = true) := hide (hO ▸ one_bv _)
      rw [hO] at hix
      have HRO : Hid (RowAt (wr.alloc (.cells O 139)) wr.heap.size 139 (bv (ord k))) := hide (hO ▸ RowAt.new wr 139 (bv (ord k)))
      clear hO hOs
      go_wp2_with (refine wpList_store_new rfl 139 _ _ rfl O rfl rfl (by rw [z80, unhide HOS]) (by rw [unhide HOS]; rfl) (unhide HO1) ?_)
      clear hix
      have HOL := hide (ord_lt k hlt10)
      have HOE := hide (ord_len k hlt10)
      obtain ⟨ok, hok⟩ : ∃ o, ord k = o := ⟨_, rfl⟩
      obtain ⟨lk, hlk⟩ : ∃ x, mixL m k l = x := ⟨_, rfl⟩
      have HE : Hid (mixL m (k + 1) l = across m ok 4 (downs m ok 4 lk)) := hide (by rw [mixL, hok, hlk])
      have HL : Hid (lk.length = 16) := hide (by rw [← hlk, mixL_len, hl])
      have HL32 : Hid (W32 lk) := hide (hlk ▸ mixL_32 m h32 k)
      obtain ⟨b1, b2, b3⟩ := unhide HB
      rw [hok] at HOL HOE HRO
      rw [hlk] at b1
      have HB1 : Hid (RowAt (wr.alloc (.cells O 139)) g 134 (u32v lk) ∧ RowAt (wr.alloc (.cells O 139)) w.heap.size 134 (u32v m) ∧ Only (· = g) w (wr.alloc (.cells O 139))) := hide
        ⟨b1.only (p := fun _ => False) ((Only.refl _ wr).alloc _) id, b2.only (p := fun _ => False) ((Only.refl _ wr).alloc _) id, b3.alloc _⟩
      have hgw : Hid (g < wr.heap.size ∧ w.heap.size < wr.heap.size) := hide ⟨b1.lt, b2.lt⟩
      clear b1 b2 b3 HB hok hlk
      obtain ⟨B, hBn⟩ : ∃ B, wr.heap.size = B := ⟨_, rfl⟩
      rw [hBn] at HRO hgw ⊢
      generalize wr.alloc (.cells O 139) = w2 at *
      clear hBn
      go_loopw [12] (fun s wr => ∃ j : Nat, j ≤ 4 ∧ s = .int .i64 (j : Int) ∧ Hid (RowAt wr g 134 (u32v (downs m ok j lk)) ∧ RowAt wr w.heap.size 134 (u32v m) ∧ Only (· = g) w wr ∧ RowAt wr B 139 (bv ok))) (fun s _ => (4 - intOf s).toNat)
      case atStart => exact ⟨0, by omega, rfl, (unhide HB1).1, (unhide HB1).2.1, (unhide HB1).2.2, unhide HRO⟩
      case round =>
        obtain ⟨j, hj, rfl, HC⟩ := hrel
        by_cases hlt4 : j < 4
        · have q0 := unhide HOL (2 * j)
          have q1 := unhide HOL (2 * j + 1)
          have p0 := u8_cell (unhide HC).2.2.2 (2 * j) (by rw [unhide HOE]; omega)
          have p1 := u8_cell (unhide HC).2.2.2 (2 * j + 1) (by rw [unhide HOE]; omega)
          have m0 := u32_cell (unhide HC).2.1 (ok.getD (2 * j) 0) (by omega)
          have m1 := u32_cell (unhide HC).2.1 (ok.getD (2 * j + 1) 0) (by omega)
          have HST := hide (fun wx hw => stir_any g j (4 + j) (8 + j) (12 + j) (m.getD (ok.getD (2 * j) 0) 0) (m.getD (ok.getD (2 * j + 1) 0) 0) (downs m ok j lk) wx (by rw [downs_len, unhide HL]) (downs_32 m ok (unhide HL32) j) (hm32.getD _) (hm32.getD _) hw
            (by omega) (by omega) (by omega) (by omega) (by omega) (by omega) (by omega) (by omega) (by omega) (by omega))
          have HEE : Hid (downs m ok (j + 1) lk = stirL (downs m ok j lk) j (4 + j) (8 + j) (12 + j) (m.getD (ok.getD (2 * j) 0) 0) (m.getD (ok.getD (2 * j + 1) 0) 0)) := hide rfl
          generalize ok.getD (2 * j) 0 = y0 at *
          generalize ok.getD (2 * j + 1) 0 = y1 at *
          generalize m.getD y0 0 = x0 at *
          generalize m.getD y1 0 = x1 at *
          have z0 : (y0 : Int) < 16 := by omega
          have z1 : (y1 : Int) < 16 := by omega
          have hj4 : (j : Int) < 4 := by omega
          have hcase : j = 0 ∨ j = 1 ∨ j = 2 ∨ j = 3 := by omega
          clear HIX HRM HO HR HB1 HRO hlt10 hk10 hk HOL HOE HL HL32 h32 hm32 hj hlt4
          rcases hcase with rfl | rfl | rfl | rfl
          · go_wp2_with fail
            refine wp_region_tail 21 (by kernel_rfl) (by kernel_rfl) ?_
            simp only [List.take_succ_cons, List.take_zero, List.drop_succ_cons, List.drop_zero]
            repeat (go_big_quiet_step (fail))
            refine wpQuiet_nil ?_
            go_wp2_with fail
            refine Calls.mono (unhide HST _ (RowAt.drew (unhide HC).1)) ?_
            rintro e w3 ⟨rfl, hrow, honly⟩
            obtain ⟨c1, c2, c3, c4⟩ := unhide HC
            have HD : Hid (RowAt w3 g 134 _ ∧ RowAt w3 w.heap.size 134 (u32v m) ∧ Only (· = g) w w3 ∧ RowAt w3 B 139 (bv ok)) := hide ⟨hrow, c2.drew.only honly (by omega), c3.drew.trans honly, c4.drew.only honly (by have := unhide hgw; omega)⟩
            rw [← unhide HEE] at HD
            clear hrow honly c1 c2 c3 c4 HST HEE p0 p1 m0 m1 q0 q1 z0 z1
            go_wp2_with fail
            go_roundw
            case rel => exact ⟨1, by omega, by go_num, HD⟩
            case measure => first | (simp [intOf]; done) | (simp [intOf]; omega)
          · go_wp2_with fail
            refine wp_region_tail 21 (by kernel_rfl) (by kernel_rfl) ?_
            simp only [List.take_succ_cons, List.take_zero, List.drop_succ_cons, List.drop_zero]
            repeat (go_big_quiet_step (fail))
            refine wpQuiet_nil ?_
            go_wp2_with fail
            refine Calls.mono (unhide HST _ (RowAt.drew (unhide HC).1)) ?_
            rintro e w3 ⟨rfl, hrow, honly⟩
            obtain ⟨c1, c2, c3, c4⟩ := unhide HC
            have HD : Hid (RowAt w3 g 134 _ ∧ RowAt w3 w.heap.size 134 (u32v m) ∧ Only (· = g) w w3 ∧ RowAt w3 B 139 (bv ok)) := hide ⟨hrow, c2.drew.only honly (by omega), c3.drew.trans honly, c4.drew.only honly (by have := unhide hgw; omega)⟩
            rw [← unhide HEE] at HD
            clear hrow honly c1 c2 c3 c4 HST HEE p0 p1 m0 m1 q0 q1 z0 z1
            go_wp2_with fail
            go_roundw
            case rel => exact ⟨2, by omega, by go_num, HD⟩
            case measure => first | (simp [intOf]; done) | (simp [intOf]; omega)
          · go_wp2_with fail
            refine wp_region_tail 21 (by kernel_rfl) (by kernel_rfl) ?_
            simp only [List.take_succ_cons, List.take_zero, List.drop_succ_cons, List.drop_zero]
            repeat (go_big_quiet_step (fail))
            refine wpQuiet_nil ?_
            go_wp2_with fail
            refine Calls.mono (unhide HST _ (RowAt.drew (unhide HC).1)) ?_
            rintro e w3 ⟨rfl, hrow, honly⟩
            obtain ⟨c1, c2, c3, c4⟩ := unhide HC
            have HD : Hid (RowAt w3 g 134 _ ∧ RowAt w3 w.heap.size 134 (u32v m) ∧ Only (· = g) w w3 ∧ RowAt w3 B 139 (bv ok)) := hide ⟨hrow, c2.drew.only honly (by omega), c3.drew.trans honly, c4.drew.only honly (by have := unhide hgw; omega)⟩
            rw [← unhide HEE] at HD
            clear hrow honly c1 c2 c3 c4 HST HEE p0 p1 m0 m1 q0 q1 z0 z1
            go_wp2_with fail
            go_roundw
            case rel => exact ⟨3, by omega, by go_num, HD⟩
            case measure => first | (simp [intOf]; done) | (simp [intOf]; omega)
          · go_wp2_with fail
            refine wp_region_tail 21 (by kernel_rfl) (by kernel_rfl) ?_
            simp only [List.take_succ_cons, List.take_zero, List.drop_succ_cons, List.drop_zero]
            repeat (go_big_quiet_step (fail))
            refine wpQuiet_nil ?_
            go_wp2_with fail
            refine Calls.mono (unhide HST _ (RowAt.drew (unhide HC).1)) ?_
            rintro e w3 ⟨rfl, hrow, honly⟩
            obtain ⟨c1, c2, c3, c4⟩ := unhide HC
            have HD : Hid (RowAt w3 g 134 _ ∧ RowAt w3 w.heap.size 134 (u32v m) ∧ Only (· = g) w w3 ∧ RowAt w3 B 139 (bv ok)) := hide ⟨hrow, c2.drew.only honly (by omega), c3.drew.trans honly, c4.drew.only honly (by have := unhide hgw; omega)⟩
            rw [← unhide HEE] at HD
            clear hrow honly c1 c2 c3 c4 HST HEE p0 p1 m0 m1 q0 q1 z0 z1
            go_wp2_with fail
            go_roundw
            case rel => exact ⟨4, by omega, by go_num, HD⟩
            case measure => first | (simp [intOf]; done) | (simp [intOf]; omega)
        · have hj4 : j = 4 := by omega
          have hnn : ¬ (j : Int) < 4 := by omega
          rw [hj4] at HC
          clear hj4 hj hlt4
          obtain ⟨lj, hlj⟩ : ∃ x, downs m ok 4 lk = x := ⟨_, rfl⟩
          have HL' : Hid (lj.length = 16) := hide (by rw [← hlj, downs_len, unhide HL])
          have HL32' : Hid (W32 lj) := hide (hlj ▸ downs_32 m ok (unhide HL32) 4)
          rw [hlj] at HC HE
          clear hlj HB1 HRO HR HRM HO HL HL32
          go_wp2_with fail
          rename World => w5
          go_loopw [38] (fun s wr => ∃ j : Nat, j ≤ 4 ∧ s = .int .i64 (j : Int) ∧ Hid (RowAt wr g 134 (u32v (across m ok j lj)) ∧ RowAt wr w.heap.size 134 (u32v m) ∧ Only (· = g) w wr ∧ RowAt wr B 139 (bv ok))) (fun s _ => (4 - intOf s).toNat)
          case atStart => exact ⟨0, by omega, rfl, HC⟩
          case round =>
            obtain ⟨j, hj, rfl, HC⟩ := hrel
            by_cases hlt4 : j < 4
            · have q0 := unhide HOL (8 + 2 * j)
              have q1 := unhide HOL (9 + 2 * j)
              have p0 := u8_cell (unhide HC).2.2.2 (8 + 2 * j) (by rw [unhide HOE]; omega)
              have p1 := u8_cell (unhide HC).2.2.2 (9 + 2 * j) (by rw [unhide HOE]; omega)
              have m0 := u32_cell (unhide HC).2.1 (ok.getD (8 + 2 * j) 0) (by omega)
              have m1 := u32_cell (unhide HC).2.1 (ok.getD (9 + 2 * j) 0) (by omega)
              have HST := hide (fun wx hw => stir_any g j (4 + (j + 1) % 4) (8 + (j + 2) % 4) (12 + (j + 3) % 4) (m.getD (ok.getD (8 + 2 * j) 0) 0) (m.getD (ok.getD (9 + 2 * j) 0) 0) (across m ok j lj) wx (by rw [across_len, unhide HL']) (across_32 m ok (unhide HL32') j) (hm32.getD _) (hm32.getD _) hw
                (by omega) (by omega) (by omega) (by omega) (by omega) (by omega) (by omega) (by omega) (by omega) (by omega))
              have HEE : Hid (across m ok (j + 1) lj = stirL (across m ok j lj) j (4 + (j + 1) % 4) (8 + (j + 2) % 4) (12 + (j + 3) % 4) (m.getD (ok.getD (8 + 2 * j) 0) 0) (m.getD (ok.getD (9 + 2 * j) 0) 0)) := hide rfl
              generalize ok.getD (8 + 2 * j) 0 = y0 at *
              generalize ok.getD (9 + 2 * j) 0 = y1 at *
              generalize m.getD y0 0 = x0 at *
              generalize m.getD y1 0 = x1 at *
              have z0 : (y0 : Int) < 16 := by omega
              have z1 : (y1 : Int) < 16 := by omega
              have hj4 : (j : Int) < 4 := by omega
              have hcase : j = 0 ∨ j = 1 ∨ j = 2 ∨ j = 3 := by omega
              clear HIX hlt10 hk10 hk HOL HOE HL' HL32' h32 hm32 hj hlt4
              rcases hcase with rfl | rfl | rfl | rfl
              · go_wp2_with fail
                refine wp_region_tail 28 (by kernel_rfl) (by kernel_rfl) ?_
                simp only [List.take_succ_cons, List.take_zero, List.drop_succ_cons, List.drop_zero]
                repeat (go_big_quiet_step (fail))
                refine wpQuiet_nil ?_
                go_wp2_with fail
                refine Calls.mono (unhide HST _ (RowAt.drew (unhide HC).1)) ?_
                rintro e w3 ⟨rfl, hrow, honly⟩
                obtain ⟨c1, c2, c3, c4⟩ := unhide HC
                have HD : Hid (RowAt w3 g 134 _ ∧ RowAt w3 w.heap.size 134 (u32v m) ∧ Only (· = g) w w3 ∧ RowAt w3 B 139 (bv ok)) := hide ⟨hrow, c2.drew.only honly (by omega), c3.drew.trans honly, c4.drew.only honly (by have := unhide hgw; omega)⟩
                rw [← unhide HEE] at HD
                clear hrow honly c1 c2 c3 c4 HST HEE p0 p1 m0 m1 q0 q1 z0 z1
                go_wp2_with fail
                go_roundw
                case rel => exact ⟨1, by omega, by go_num, HD⟩
                case measure => first | (simp [intOf]; done) | (simp [intOf]; omega)
              · go_wp2_with fail
                refine wp_region_tail 28 (by kernel_rfl) (by kernel_rfl) ?_
                simp only [List.take_succ_cons, List.take_zero, List.drop_succ_cons, List.drop_zero]
                repeat (go_big_quiet_step (fail))
                refine wpQuiet_nil ?_
                go_wp2_with fail
                refine Calls.mono (unhide HST _ (RowAt.drew (unhide HC).1)) ?_
                rintro e w3 ⟨rfl, hrow, honly⟩
                obtain ⟨c1, c2, c3, c4⟩ := unhide HC
                have HD : Hid (RowAt w3 g 134 _ ∧ RowAt w3 w.heap.size 134 (u32v m) ∧ Only (· = g) w w3 ∧ RowAt w3 B 139 (bv ok)) := hide ⟨hrow, c2.drew.only honly (by omega), c3.drew.trans honly, c4.drew.only honly (by have := unhide hgw; omega)⟩
                rw [← unhide HEE] at HD
                clear hrow honly c1 c2 c3 c4 HST HEE p0 p1 m0 m1 q0 q1 z0 z1
                go_wp2_with fail
                go_roundw
                case rel => exact ⟨2, by omega, by go_num, HD⟩
                case measure => first | (simp [intOf]; done) | (simp [intOf]; omega)
              · go_wp2_with fail
                refine wp_region_tail 28 (by kernel_rfl) (by kernel_rfl) ?_
                simp only [List.take_succ_cons, List.take_zero, List.drop_succ_cons, List.drop_zero]
                repeat (go_big_quiet_step (fail))
                refine wpQuiet_nil ?_
                go_wp2_with fail
                refine Calls.mono (unhide HST _ (RowAt.drew (unhide HC).1)) ?_
                rintro e w3 ⟨rfl, hrow, honly⟩
                obtain ⟨c1, c2, c3, c4⟩ := unhide HC
                have HD : Hid (RowAt w3 g 134 _ ∧ RowAt w3 w.heap.size 134 (u32v m) ∧ Only (· = g) w w3 ∧ RowAt w3 B 139 (bv ok)) := hide ⟨hrow, c2.drew.only honly (by omega), c3.drew.trans honly, c4.drew.only honly (by have := unhide hgw; omega)⟩
                rw [← unhide HEE] at HD
                clear hrow honly c1 c2 c3 c4 HST HEE p0 p1 m0 m1 q0 q1 z0 z1
                go_wp2_with fail
                go_roundw
                case rel => exact ⟨3, by omega, by go_num, HD⟩
                case measure => first | (simp [intOf]; done) | (simp [intOf]; omega)
              · go_wp2_with fail
                refine wp_region_tail 28 (by kernel_rfl) (by kernel_rfl) ?_
                simp only [List.take_succ_cons, List.take_zero, List.drop_succ_cons, List.drop_zero]
                repeat (go_big_quiet_step (fail))
                refine wpQuiet_nil ?_
                go_wp2_with fail
                refine Calls.mono (unhide HST _ (RowAt.drew (unhide HC).1)) ?_
                rintro e w3 ⟨rfl, hrow, honly⟩
                obtain ⟨c1, c2, c3, c4⟩ := unhide HC
                have HD : Hid (RowAt w3 g 134 _ ∧ RowAt w3 w.heap.size 134 (u32v m) ∧ Only (· = g) w w3 ∧ RowAt w3 B 139 (bv ok)) := hide ⟨hrow, c2.drew.only honly (by omega), c3.drew.trans honly, c4.drew.only honly (by have := unhide hgw; omega)⟩
                rw [← unhide HEE] at HD
                clear hrow honly c1 c2 c3 c4 HST HEE p0 p1 m0 m1 q0 q1 z0 z1
                go_wp2_with fail
                go_roundw
                case rel => exact ⟨4, by omega, by go_num, HD⟩
                case measure => first | (simp [intOf]; done) | (simp [intOf]; omega)
            · obtain rfl : j = 4 := by omega
              obtain ⟨c1, c2, c3, c4⟩ := unhide HC
              have HF : Hid (RowAt wr g 134 (u32v (mixL m (k + 1) l)) ∧ RowAt wr w.heap.size 134 (u32v m) ∧ Only (· = g) w wr) := hide ⟨by rw [unhide HE]; exact c1, c2, c3⟩
              clear c1 c2 c3 c4 HC HE
              go_wp2_with fail
              go_roundw
              case rel => exact ⟨k + 1, by omega, by go_num, HF⟩
              case measure => first | (simp [intOf]; done) | (simp [intOf]; omega)
    · obtain rfl : k = 10 := by omega
      go_wp2_with fail
      go_end0
      obtain ⟨b1, b2, b3⟩ := unhide HB
      exact ⟨rfl, b1, b3⟩
end Go.Proofs.YtbnfilhilgjnfaaDoor
