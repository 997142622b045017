/- The example; whether bytes are too many. -/
import Derived.Test.YtlgbkkfkobijpaaDoorOf
import Derived.Lib.SlBytesConst
namespace Go.Proofs.YtlgbkkfkobijpaaDoor
set_option linter.unusedVariables false
set_option linter.unusedSimpArgs false
open Go.ChangeShapes Go.WideShapes Go.ChangeAt Go.RowKit

/-- a slice of slices that a call was just handed -/
theorem LL.one {w : World} {v : Value} {l : List Nat} (h : Byt w v l) : LL (w.alloc (.cells #[v] 22)) (.slice (some ⟨w.heap.size, 0, none⟩) 1 1) [(v, l)] := by
  refine ⟨_, 1, rfl, ⟨by simp, by unfold maxLen; omega⟩, fun i u m hi => ?_⟩
  match i, hi with
  | 0, hi =>
    obtain ⟨rfl, rfl⟩ : v = u ∧ l = m := by simpa using hi
    exact ⟨⟨_, rfl, by simp [Addr.add]⟩, h.call ((Below.refl _ _).alloc (Nat.le_refl _) _)⟩
  | i + 1, hi => simp at hi
theorem LL.two {w : World} {v v' : Value} {l l' : List Nat} (h : Byt w v l) (h' : Byt w v' l') : LL (w.alloc (.cells #[v, v'] 22)) (.slice (some ⟨w.heap.size, 0, none⟩) 2 2) [(v, l), (v', l')] := by
  refine ⟨_, 2, rfl, ⟨by simp, by unfold maxLen; omega⟩, fun i u m hi => ?_⟩
  match i, hi with
  | 0, hi =>
    obtain ⟨rfl, rfl⟩ : v = u ∧ l = m := by simpa using hi
    exact ⟨⟨_, rfl, by simp [Addr.add]⟩, h.call ((Below.refl _ _).alloc (Nat.le_refl _) _)⟩
  | 1, hi =>
    obtain ⟨rfl, rfl⟩ : v' = u ∧ l' = m := by simpa using hi
    exact ⟨⟨_, rfl, by simp [Addr.add]⟩, h'.call ((Below.refl _ _).alloc (Nat.le_refl _) _)⟩
  | i + 2, hi => simp at hi
theorem LL.three {w : World} {v v' v'' : Value} {l l' l'' : List Nat} (h : Byt w v l) (h' : Byt w v' l') (h'' : Byt w v'' l'') : LL (w.alloc (.cells #[v, v', v''] 22)) (.slice (some ⟨w.heap.size, 0, none⟩) 3 3) [(v, l), (v', l'), (v'', l'')] := by
  refine ⟨_, 3, rfl, ⟨by simp, by unfold maxLen; omega⟩, fun i u m hi => ?_⟩
  match i, hi with
  | 0, hi =>
    obtain ⟨rfl, rfl⟩ : v = u ∧ l = m := by simpa using hi
    exact ⟨⟨_, rfl, by simp [Addr.add]⟩, h.call ((Below.refl _ _).alloc (Nat.le_refl _) _)⟩
  | 1, hi =>
    obtain ⟨rfl, rfl⟩ : v' = u ∧ l' = m := by simpa using hi
    exact ⟨⟨_, rfl, by simp [Addr.add]⟩, h'.call ((Below.refl _ _).alloc (Nat.le_refl _) _)⟩
  | 2, hi =>
    obtain ⟨rfl, rfl⟩ : v'' = u ∧ l'' = m := by simpa using hi
    exact ⟨⟨_, rfl, by simp [Addr.add]⟩, h''.call ((Below.refl _ _).alloc (Nat.le_refl _) _)⟩
  | i + 3, hi => simp at hi

theorem u8_abc : U8 [97, 98, 99] := by
  show ∀ y ∈ [97, 98, 99], y < 256
  decide
def strOf (l : List Nat) : ByteArray := ⟨(l.map UInt8.ofNat).toArray⟩
theorem byt_convert {w : World} {v : Value} {l : List Nat} (h : Byt w v l) (h256 : ∀ y ∈ l, y < 256) : (convert 22 9 v).run Tryd.prog w = .ok (.string (strOf l)) w := by
  rcases h with ⟨rfl, rfl⟩ | ⟨a, cap, rfl, h1, h2, h3⟩
  · rw [run_convert_bytes_string w 22 9 5 none 0 0 Tryd.underlying22 Tryd.underlying5 Tryd.underlying9]
    simp [Conv.bytesToString]
    rfl
  · have q := run_convert_bytes_back (P := Tryd.prog) w 22 9 5 a cap (l.map UInt8.ofNat) Tryd.underlying22 Tryd.underlying5 Tryd.underlying9 (fun j hj => by
      have hj' : j < l.length := by simpa using hj
      rw [h3 j _ (List.getElem?_eq_getElem hj')]
      have := h256 _ (List.getElem_mem hj')
      simp; omega)
    rw [List.length_map] at q
    exact q
set_option maxHeartbeats 1000000 in
theorem equal_any (v x : Value) (l m : List Nat) (w : World) (hv : Byt w v l) (hx : Byt w x m) (hl : ∀ y ∈ l, y < 256) (hm : ∀ y ∈ m, y < 256) :
    Calls Tryd.prog 14 #[v, x] w fun e w' => e = .returned (.bool ((strOf l).toList == (strOf m).toList)) ∧ w = w' := by
  have c1 := byt_convert hv hl
  have c2 := byt_convert hx hm
  obtain ⟨a1, cap1, rfl⟩ := byt_shape hv
  obtain ⟨a2, cap2, rfl⟩ := byt_shape hx
  clear hv hx hl hm
  go_enter Tryd.func14, Tryd.ntmps14
  go_wp2
  go_ret
  exact ⟨rfl, rfl⟩
theorem equal_same (v x : Value) (l : List Nat) (w : World) (hv : Byt w v l) (hx : Byt w x l) (hl : ∀ y ∈ l, y < 256) :
    Calls Tryd.prog 14 #[v, x] w fun e w' => e = .returned (.bool true) ∧ w = w' :=
  (equal_any v x l l w hv hx hl hl).mono (fun e w' h => ⟨by rw [h.1]; simp, h.2⟩)

theorem lit_byt (w : World) (l : List Nat) (fr : Nat × Nat) (n : Nat) (hn : l.length = n) (hm : n ≤ 1000) : Byt (w.alloc (.cells ((bv l).toArray) 5 fr)) (.slice (some ⟨w.heap.size, 0, none⟩) n n) l := by
  subst hn
  refine .inr ⟨_, _, rfl, Nat.le_refl _, by unfold maxLen; omega, fun i y hy => ?_⟩
  rw [add_plain, World.cell?_alloc_mark]
  simp [bv, hy]


set_option maxRecDepth 100000 in
set_option maxHeartbeats 4000000 in
theorem awake_any (w : World) (hT : Tabs w) : Calls Tryd.prog 10 #[] w fun e w' => e = .returned (.bool true) ∧ Below w.heap.size w w' := by
  have hz := zero27
  generalize hZ : (bv (List.replicate 32 0)).toArray = Z at hz
  have HZS : Hid (Z.size = 32) := hide (by rw [← hZ, List.size_toArray, bv_len, List.length_replicate])
  clear hZ
  have kc := fun (w : World) (C : Array Value) (n c : Nat) => Lib.run_convert_bytes_const (P := Tryd.prog) w 22 5 C n c Tryd.underlying22 Tryd.underlying5
  have L1 := lit_byt w [97, 98, 99] (3, 4) 3 rfl (by decide)
  have b1 : Below w.heap.size w (w.alloc (.cells #[.int .u8 97, .int .u8 98, .int .u8 99] 5 (3, 4))) := (Below.refl _ _).alloc (Nat.le_refl _) _
  have L2 := LL.one (w := w.alloc (.cells #[.int .u8 97, .int .u8 98, .int .u8 99] 5 (3, 4))) L1
  rw [size_alloc] at L2
  have b2 := b1.alloc (by rw [size_alloc]; omega) (.cells #[.slice (some ⟨w.heap.size, 0, none⟩) 3 3] 22)
  have kc := fun (w : World) (C : Array Value) (n c : Nat) => Lib.run_convert_bytes_const (P := Tryd.prog) w 22 5 C n c Tryd.underlying22 Tryd.underlying5
  have L1 := lit_byt w [97, 98, 99] (3, 4) 3 rfl (by decide)
  have b1 : Below w.heap.size w (w.alloc (.cells #[.int .u8 97, .int .u8 98, .int .u8 99] 5 (3, 4))) := (Below.refl _ _).alloc (Nat.le_refl _) _
  have L2 := LL.one (w := w.alloc (.cells #[.int .u8 97, .int .u8 98, .int .u8 99] 5 (3, 4))) L1
  rw [size_alloc] at L2
  have b2 := b1.alloc (by rw [size_alloc]; omega) (.cells #[.slice (some ⟨w.heap.size, 0, none⟩) 3 3] 22)
  have kc := fun (w : World) (C : Array Value) (n c : Nat) => Lib.run_convert_bytes_const (P := Tryd.prog) w 22 5 C n c Tryd.underlying22 Tryd.underlying5
  have L1 := lit_byt w [97, 98, 99] (3, 4) 3 rfl (by decide)
  have b1 : Below w.heap.size w (w.alloc (.cells #[.int .u8 97, .int .u8 98, .int .u8 99] 5 (3, 4))) := (Below.refl _ _).alloc (Nat.le_refl _) _
  have L2 := LL.one (w := w.alloc (.cells #[.int .u8 97, .int .u8 98, .int .u8 99] 5 (3, 4))) L1
  rw [size_alloc] at L2
  have b2 := b1.alloc (by rw [size_alloc]; omega) (.cells #[.slice (some ⟨w.heap.size, 0, none⟩) 3 3] 22)
  have kc := fun (w : World) (C : Array Value) (n c : Nat) => Lib.run_convert_bytes_const (P := Tryd.prog) w 22 5 C n c Tryd.underlying22 Tryd.underlying5
  have L1 := lit_byt w [97, 98, 99] (3, 4) 3 rfl (by decide)
  have b1 : Below w.heap.size w (w.alloc (.cells #[.int .u8 97, .int .u8 98, .int .u8 99] 5 (3, 4))) := (Below.refl _ _).alloc (Nat.le_refl _) _
  have L2 := LL.one (w := w.alloc (.cells #[.int .u8 97, .int .u8 98, .int .u8 99] 5 (3, 4))) L1
  rw [size_alloc] at L2
  have b2 := b1.alloc (by rw [size_alloc]; omega) (.cells #[.slice (some ⟨w.heap.size, 0, none⟩) 3 3] 22)
  have kc := fun (w : World) (C : Array Value) (n c : Nat) => Lib.run_convert_bytes_const (P := Tryd.prog) w 22 5 C n c Tryd.underlying22 Tryd.underlying5
  have L1 := lit_byt w [97, 98, 99] (3, 4) 3 rfl (by decide)
  have b1 : Below w.heap.size w (w.alloc (.cells #[.int .u8 97, .int .u8 98, .int .u8 99] 5 (3, 4))) := (Below.refl _ _).alloc (Nat.le_refl _) _
  have L2 := LL.one (w := w.alloc (.cells #[.int .u8 97, .int .u8 98, .int .u8 99] 5 (3, 4))) L1
  rw [size_alloc] at L2
  have b2 := b1.alloc (by rw [size_alloc]; omega) (.cells #[.slice (some ⟨w.heap.size, 0, none⟩) 3 3] 22)
  go_enter Tryd.func10, Tryd.ntmps10
  have HOF := hide (of_any [(.slice (some ⟨w.heap.size, 0, none⟩) 3 3, [97, 98, 99])] _ _ (hT.below b2) L2 (fun x hx => by obtain rfl := List.mem_singleton.1 hx; exact u8_abc) (show 3 ≤ 1000000000 by decide))
  have HB2 := hide b2
  clear b1 b2 L1 L2
  go_wp2_with fail
  refine Calls.mono (unhide HOF) ?_
  rintro e w3 ⟨rfl, b3⟩
  rw [show flat [(Value.slice (some ⟨w.heap.size, 0, none⟩) 3 3, [97, 98, 99])] = [97, 98, 99] from rfl, abc]
  have R4 := RowAt.new w3 27 (bv [80, 140, 94, 140, 50, 124, 20, 226, 225, 167, 43, 163, 78, 235, 69, 47, 55, 69, 139, 32, 158, 214, 58, 41, 77, 153, 155, 76, 134, 103, 89, 130])
  obtain ⟨E, hE⟩ : ∃ E, (bv [80, 140, 94, 140, 50, 124, 20, 226, 225, 167, 43, 163, 78, 235, 69, 47, 55, 69, 139, 32, 158, 214, 58, 41, 77, 153, 155, 76, 134, 103, 89, 130]).toArray = E := ⟨_, rfl⟩
  rw [hE] at R4 ⊢
  have HES : Hid (E.size = 32) := hide (by rw [← hE]; rfl)
  have HEO : Hid (E.all (·.oneCell') = true) := hide (hE ▸ one_bv _)
  have k0 := R4.cell 0
  have k1 := R4.cell 1
  have k2 := R4.cell 2
  have k3 := R4.cell 3
  have k30 := R4.cell 30
  have k31 := R4.cell 31
  simp only [bv, List.map_cons, List.getElem?_cons_zero, List.getElem?_cons_succ] at k0 k1 k2 k3 k30 k31
  have HB4 : Hid (Below w.heap.size w (w3.alloc (.cells E 27))) := hide (((unhide HB2).trans (b3.mono (by rw [size_alloc, size_alloc]; omega))).alloc (Nat.le_trans (by rw [size_alloc, size_alloc]; omega) b3.size) _)
  clear R4 hE b3 HOF HB2 kc
  go_wp2_with (refine wpList_store_new rfl 27 _ _ rfl E rfl rfl (by rw [z27, unhide HES]) (by rw [unhide HES, unhide HZS]) (unhide HEO) ?_)
  go_ret
  exact ⟨rfl, unhide HB4⟩

/-- 'long' tells, if it says no, that there are not too many -/
def LongR (w : World) (P : List (Value × List Nat)) (e : Ending) (w' : World) : Prop := ∃ b, e = .returned (.bool b) ∧ (b = false → (flat P).length ≤ 4096) ∧ w = w'
set_option maxRecDepth 100000 in
set_option maxHeartbeats 4000000 in
theorem long_any (P : List (Value × List Nat)) (v : Value) (w : World) (hv : LL w v P) : Calls Tryd.prog 9 #[v] w fun e w' => LongR w P e w' := by
  have HV := hide hv
  obtain ⟨a, cap, rfl, hcap, _⟩ := hv
  obtain ⟨N, hN⟩ : ∃ N, P.length = N := ⟨_, rfl⟩
  rw [hN]
  have HNN := hide hN
  have hNm : N ≤ 9223372036854775807 := by have := hcap.1; have := hcap.2; unfold maxLen at this; omega
  clear hcap hN
  go_enter Tryd.func9, Tryd.ntmps9
  go_wp2_with fail
  go_loopw [3, 4] (fun s i wr => w = wr ∧ ∃ (n k : Nat), k ≤ N ∧ n ≤ 9000 ∧ s = .int .i64 (n : Int) ∧ i = .int .i64 (k : Int) ∧ Hid (n ≤ 4096 → (flat (P.take k)).length ≤ n)) (fun _ i _ => (N - intOf i).toNat)
  case atStart => exact ⟨rfl, 0, 0, by omega, by omega, rfl, rfl, by intro _; simp [flat]⟩
  case round =>
    obtain ⟨rfl, n, k, hk, hn, rfl, rfl, HI⟩ := hrel
    rename World => w
    by_cases hlt : k < N
    · have hkN : (k : Int) < (N : Int) := by omega
      by_cases hle : n ≤ 4096
      · have hkP : k < P.length := by rw [unhide HNN]; exact hlt
        obtain ⟨⟨u, l⟩, hul⟩ : ∃ x, P[k]? = some x := ⟨_, List.getElem?_eq_getElem hkP⟩
        obtain ⟨a', cap', hav, _, hq⟩ := unhide HV
        obtain ⟨rfl, _, rfl⟩ : a = a' ∧ _ ∧ cap = cap' := by injection hav with h1 h2 h3; exact ⟨h1, h2, h3⟩
        obtain ⟨⟨b, rfl, hc⟩, hby⟩ := hq k u l hul
        obtain ⟨au, cu, rfl⟩ := byt_shape hby
        have eT : flat (P.take (k + 1)) = flat (P.take k) ++ l := by
          rw [List.take_succ_eq_append_getElem hkP, flat, List.map_append, List.flatten_append]
          have : P[k] = (Value.slice au l.length cu, l) := by rw [List.getElem?_eq_getElem hkP] at hul; exact Option.some.inj hul
          simp [flat, this]
        obtain ⟨m, hm⟩ : ∃ m, min l.length 4096 = m := ⟨_, rfl⟩
        have hm4 : m ≤ 4096 := by omega
        have HI2 : Hid (n + (1 + m) ≤ 4096 → (flat (P.take (k + 1))).length ≤ n + (1 + m)) := hide (fun h => by
          have := unhide HI hle
          rw [eT, List.length_append]
          omega)
        have hmI : min (l.length : Int) 4096 = (m : Int) := by omega
        have hl63 : l.length ≤ 9223372036854775807 := by
          rcases hby with ⟨_, h⟩ | ⟨_, _, _, h1, h2, _⟩
          · rw [h]; simp
          · unfold maxLen at h2; omega
        obtain ⟨L, hL⟩ : ∃ L, l.length = L := ⟨_, rfl⟩
        rw [hL] at hc hmI hl63
        clear hby hul hq eT hL hm HV
        go_wp2_with fail
        refine ⟨⟨trivial, n + (1 + m), k + 1, by omega, by omega, ?_, by go_num, HI2⟩, by simp [intOf]; omega⟩
        congr 1
        split <;> omega
      · have hnI : ¬ (n : Int) ≤ 4096 := by omega
        have hnI2 : (4096 : Int) < (n : Int) := by omega
        go_wp2_with fail
        go_ret
        exact ⟨true, rfl, fun h => Bool.noConfusion h, rfl⟩
    · have hkN : ¬ (k : Int) < (N : Int) := by omega
      have hP : P.take k = P := List.take_of_length_le (by rw [unhide HNN]; omega)
      rw [hP] at HI
      have HL := hide hlt
      clear hP hlt
      by_cases hle : n ≤ 4096
      · have hnI2 : ¬ (4096 : Int) < (n : Int) := by omega
        go_wp2_with fail
        go_ret
        exact ⟨false, rfl, fun _ => Nat.le_trans (unhide HI hle) hle, rfl⟩
      · have hnI2 : (4096 : Int) < (n : Int) := by omega
        go_wp2_with fail
        go_ret
        exact ⟨true, rfl, fun h => Bool.noConfusion h, rfl⟩
end Go.Proofs.YtlgbkkfkobijpaaDoor
