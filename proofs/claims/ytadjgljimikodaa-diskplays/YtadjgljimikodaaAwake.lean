/- Bytes that are the same; the example. -/
import Derived.Test.YtadjgljimikodaaFiles
import Derived.Lib.SlBytesConst
namespace Go.Proofs.Ytadjgljimikodaa
set_option linter.unusedVariables false
set_option linter.unusedSimpArgs false
open Go.ChangeShapes Go.WideShapes Go.ChangeAt Go.RowKit

def strOf (l : List Nat) : ByteArray := ⟨(l.map UInt8.ofNat).toArray⟩
theorem byt_convert {w : World} {v : Value} {l : List Nat} (h : Byt w v l) (h256 : ∀ y ∈ l, y < 256) : (convert 32 9 v).run Try.prog w = .ok (.string (strOf l)) w := by
  rcases h with ⟨rfl, rfl⟩ | ⟨a, cap, rfl, h1, h2, h3⟩
  · rw [run_convert_bytes_string w 32 9 5 none 0 0 Try.underlying32 Try.underlying5 Try.underlying9]
    simp [Conv.bytesToString]
    rfl
  · have q := run_convert_bytes_back (P := Try.prog) w 32 9 5 a cap (l.map UInt8.ofNat) Try.underlying32 Try.underlying5 Try.underlying9 (fun j hj => by
      have hj' : j < l.length := by simpa using hj
      rw [h3 j _ (List.getElem?_eq_getElem hj')]
      have := h256 _ (List.getElem_mem hj')
      simp; omega)
    rw [List.length_map] at q
    exact q
set_option maxHeartbeats 1000000 in
theorem equal_any (v x : Value) (l m : List Nat) (w : World) (hv : Byt w v l) (hx : Byt w x m) (hl : ∀ y ∈ l, y < 256) (hm : ∀ y ∈ m, y < 256) :
    Calls Try.prog 24 #[v, x] w fun e w' => e = .returned (.bool ((strOf l).toList == (strOf m).toList)) ∧ w = w' := by
  have c1 := byt_convert hv hl
  have c2 := byt_convert hx hm
  obtain ⟨a1, cap1, rfl⟩ := byt_shape hv
  obtain ⟨a2, cap2, rfl⟩ := byt_shape hx
  clear hv hx hl hm
  go_enter Try.func24, Try.ntmps24
  go_wp2
  go_ret
  exact ⟨rfl, rfl⟩
theorem equal_same (v x : Value) (l : List Nat) (w : World) (hv : Byt w v l) (hx : Byt w x l) (hl : ∀ y ∈ l, y < 256) :
    Calls Try.prog 24 #[v, x] w fun e w' => e = .returned (.bool true) ∧ w = w' :=
  (equal_any v x l l w hv hx hl hl).mono (fun e w' h => ⟨by rw [h.1]; simp, h.2⟩)

theorem lit_byt (w : World) (l : List Nat) (fr : Nat × Nat) (n : Nat) (hn : l.length = n) (hm : n ≤ 1000) : Byt (w.alloc (.cells ((bv l).toArray) 5 fr)) (.slice (some ⟨w.heap.size, 0, none⟩) n n) l := by
  subst hn
  refine .inr ⟨_, _, rfl, Nat.le_refl _, by unfold maxLen; omega, fun i y hy => ?_⟩
  rw [add_plain, World.cell?_alloc_mark]
  simp [bv, hy]

theorem At.lt {B : Nat} {w : World} {g : Nat} {d : DS} (h : At B w g d) : g < w.heap.size := by obtain ⟨S, h1, _⟩ := h; exact h1.cells.lt
theorem append_at (B g : Nat) (d : DS) (file : Int) (v : Value) (l : List Nat) (w : World) (h : At B w g d) (hB : B ≤ w.heap.size) (hv : Byt w v l) (hfar : 0 < l.length → ∀ k, v.ownBlock = some k → k ≠ g) :
    Calls Try.prog 28 #[.pointer (some ⟨g, 0, none⟩), .int .i64 file, v] w fun e w' => e = .returned (.int .i64 (d.appE file l.length)) ∧ At B w' g (d.appD file l) ∧ Below B w w' := by
  obtain ⟨S, h1, h2⟩ := h
  exact (append_any g S d file v l w h1 hv hfar).mono (fun e w' q => ⟨q.1, At.did (d := d) hB h2 q.2⟩)
theorem arm_at (B g : Nat) (d : DS) (n : Int) (w : World) (h : At B w g d) (hB : B ≤ w.heap.size) (hn : n ≤ 9223372036854775807) :
    Calls Try.prog 27 #[.pointer (some ⟨g, 0, none⟩), .int .i64 n] w fun e w' => e = .returned (.int .i64 (d.armE n)) ∧ At B w' g (d.armD n) ∧ Below B w w' := by
  obtain ⟨S, h1, h2⟩ := h
  exact (arm_any g S d n w h1 hn).mono (fun e w' q => ⟨q.1, At.did (d := d) hB h2 (Did.same q.2.1 q.2.2)⟩)
theorem start_at (B g : Nat) (d : DS) (w : World) (h : At B w g d) (hB : B ≤ w.heap.size) :
    Calls Try.prog 33 #[.pointer (some ⟨g, 0, none⟩)] w fun e w' => e = .returned (.int .i64 0) ∧ At B w' g { d with on := true } ∧ Below B w w' := by
  obtain ⟨S, h1, h2⟩ := h
  exact (start_any g S d w h1).mono (fun e w' q => ⟨q.1, At.did (d := d) hB h2 (Did.same q.2.1 q.2.2)⟩)
theorem disarm_at (B g : Nat) (d : DS) (w : World) (h : At B w g d) (hB : B ≤ w.heap.size) :
    Calls Try.prog 31 #[.pointer (some ⟨g, 0, none⟩)] w fun e w' => e = .returned (.int .i64 d.check) ∧ At B w' g d.disarmD ∧ Below B w w' := by
  obtain ⟨S, h1, h2⟩ := h
  exact (disarm_any g S d w h1).mono (fun e w' q => ⟨q.1, At.did (d := d) hB h2 (Did.same q.2.1 q.2.2)⟩)
theorem used_at (B g : Nat) (d : DS) (w : World) (h : At B w g d) :
    Calls Try.prog 20 #[.pointer (some ⟨g, 0, none⟩)] w fun e w' => e = .returned (.int .i64 (d.used : Int)) ∧ w = w' := by
  obtain ⟨S, h1, h2⟩ := h
  exact used_any g S d w h1
theorem readbad_at (B g : Nat) (d : DS) (file : Int) (w : World) (h : At B w g d) (hbad : d.on = false ∨ ¬ inF file) :
    Calls Try.prog 22 #[.pointer (some ⟨g, 0, none⟩), .int .i64 file] w fun e w' => e = .returned (.tuple #[.slice none 0 0, .int .i64 (d.checkF file)]) ∧ w = w' := by
  obtain ⟨S, h1, h2⟩ := h
  exact read_bad g S d file w h1 hbad
theorem read_at (B g : Nat) (d : DS) (i : Nat) (w : World) (h : At B w g d) (hon : d.on = true) (hi : i < 3) :
    Calls Try.prog 22 #[.pointer (some ⟨g, 0, none⟩), .int .i64 (i : Int)] w fun e w' => ∃ v', e = .returned (.tuple #[v', .int .i64 0]) ∧ New w.heap.size w' v' (d.F i) ∧ Below w.heap.size w w' := by
  obtain ⟨S, h1, h2⟩ := h
  exact read_ok g S d i w h1 hon hi
theorem start_at0 (w w1 : World) (room : Nat) (h : Dk w1 w.heap.size nils (DS.start room)) : At w.heap.size w1 w.heap.size (DS.start room) :=
  ⟨nils, h, fun k hk => by
    rcases hk with rfl | ⟨i, hi, hk⟩
    · exact Nat.le_refl _
    · simp [nils, Value.ownBlock] at hk⟩

set_option maxHeartbeats 4000000 in
theorem awake_any (w : World) : Calls Try.prog 12 #[] w fun e w' => e = .returned (.bool true) ∧ Below w.heap.size w w' := by
  have kc := fun (w : World) (C : Array Value) (n c : Nat) => Lib.run_convert_bytes_const (P := Try.prog) w 32 5 C n c Try.underlying32 Try.underlying5
  go_enter Try.func12, Try.ntmps12
  go_wp2_with fail
  refine (new_any 100 w (by decide) (by decide)).mono ?_
  rintro e w1 ⟨rfl, hd1, hb1⟩
  have at1 := start_at0 w w1 _ hd1
  clear hd1
  have L1 := lit_byt w1 [97, 98] (2, 3) 2 rfl (by decide)
  have B1 : Below w1.heap.size w1 (w1.alloc (.cells #[.int .u8 97, .int .u8 98] 5 (2, 3))) := (Below.refl _ _).alloc (Nat.le_refl _) _
  have D1 := hb1.trans (B1.mono hb1.size)
  have F1 : 0 < ([97, 98] : List Nat).length → ∀ k, (Value.slice (some ⟨w1.heap.size, 0, none⟩) 2 2).ownBlock = some k → k ≠ w.heap.size := by
    intro _ k hk
    have := at1.lt
    simp [Value.ownBlock] at hk
    omega
  have K1 := hide (append_at w.heap.size w.heap.size _ 0 _ [97, 98] _ (at1.call B1) D1.size L1 F1)
  have HD := hide D1
  clear L1 B1 D1 F1 at1 hb1
  go_wp2_with fail
  refine (unhide K1).mono ?_
  clear K1
  rintro e w2 ⟨rfl, at2, hb2⟩
  rw [show (DS.start (Int.toNat 100)).appE 0 ([97, 98] : List Nat).length = 0 by kernel_rfl]
  have D2 := (unhide HD).trans hb2
  have K2 := hide (arm_at _ _ _ 1 _ at2 D2.size (by decide))
  have HD := hide D2
  clear at2 hb2 D2
  go_wp2_with fail
  refine (unhide K2).mono ?_
  clear K2
  rintro e w3 ⟨rfl, at3, hb3⟩
  rw [show ((DS.start (Int.toNat 100)).appD 0 [97, 98]).armE 1 = 0 by kernel_rfl]
  have D3 := (unhide HD).trans hb3
  have L1 := lit_byt w3 [99, 100] (2, 3) 2 rfl (by decide)
  have B1 : Below w3.heap.size w3 (w3.alloc (.cells #[.int .u8 99, .int .u8 100] 5 (2, 3))) := (Below.refl _ _).alloc (Nat.le_refl _) _
  have D4 := D3.trans (B1.mono D3.size)
  have F1 : 0 < ([99, 100] : List Nat).length → ∀ k, (Value.slice (some ⟨w3.heap.size, 0, none⟩) 2 2).ownBlock = some k → k ≠ w.heap.size := by
    intro _ k hk
    have := at3.lt
    simp [Value.ownBlock] at hk
    omega
  have K1 := hide (append_at w.heap.size w.heap.size _ 0 _ [99, 100] _ (at3.call B1) D4.size L1 F1)
  have HD := hide D4
  clear L1 B1 D3 D4 F1 at3 hb3
  go_wp2_with fail
  refine (unhide K1).mono ?_
  clear K1
  rintro e w5 ⟨rfl, at5, hb5⟩
  have D5 := (unhide HD).trans hb5
  generalize hd5 : (((DS.start (Int.toNat 100)).appD 0 [97, 98]).armD 1).appD 0 [99, 100] = d5 at *
  rw [show (((DS.start (Int.toNat 100)).appD 0 [97, 98]).armD 1).appE 0 ([99, 100] : List Nat).length = 50 by kernel_rfl]
  have on5 : d5.on = false := by rw [← hd5]; kernel_rfl
  have f5 : d5.F 0 = [97, 98, 99] := by rw [← hd5]; kernel_rfl
  have u5 : d5.used = 3 := by rw [← hd5]; kernel_rfl
  have K2 := hide (readbad_at _ _ _ 0 _ at5 (.inl on5))
  have c5 : d5.checkF 0 = 50 := by unfold DS.checkF; rw [on5]; rfl
  rw [c5] at K2
  have K3 := hide (start_at _ _ _ _ at5 D5.size)
  have HD := hide D5
  have H5 := hide (And.intro f5 u5)
  clear hd5 f5 u5 on5 c5 D5 hb5 at5
  go_wp2_with fail
  refine (unhide K2).mono ?_
  clear K2
  rintro e w6 ⟨rfl, rfl⟩
  go_wp2_with fail
  refine (unhide K3).mono ?_
  clear K3
  rintro e w7 ⟨rfl, at7, hb7⟩
  have D7 := (unhide HD).trans hb7
  have K4 := hide (read_at _ _ _ 0 _ at7 rfl (by decide))
  go_wp2_with fail
  refine (unhide K4).mono ?_
  clear K4
  rintro e w8 ⟨v8, rfl, n8, hb8⟩
  have D8 := D7.trans (hb8.mono D7.size)
  have at8 := at7.call hb8
  rw [show ({ d5 with on := true } : DS).F 0 = [97, 98, 99] from (unhide H5).1] at n8
  have hse : (strOf [97, 98, 99]).toList = [97, 98, 99] := by decide +kernel
  obtain ⟨a8, cap8, rfl⟩ := n8.shape
  have hcv : (convert 32 9 (.slice a8 3 cap8)).run Try.prog w8 = .ok (.string (strOf [97, 98, 99])) w8 := byt_convert n8.byt (by decide)
  have K5 := hide (append_at _ _ _ 3 _ [] _ at8 D8.size (nil_byt _) (fun q => by cases q))
  have K6 := hide (used_at _ _ _ _ at8)
  clear at7 hb7 D7 n8
  rw [show ({ d5 with on := true } : DS).appE 3 ([] : List Nat).length = 51 by rfl] at K5
  go_wp2_with fail
  refine (unhide K5).mono ?_
  rintro e w9 ⟨rfl, at9, hb9⟩
  have K7 := hide (used_at _ _ _ _ at9)
  rw [show (({ d5 with on := true } : DS).appD 3 []).used = 3 from (unhide H5).2] at K7
  go_wp2_with fail
  refine (unhide K7).mono ?_
  rintro e w10 ⟨rfl, rfl⟩
  go_wp2
  go_ret
  exact ⟨rfl, D8.trans hb9⟩
end Go.Proofs.Ytadjgljimikodaa
