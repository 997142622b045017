/- The example; whether bytes are too many. -/
import Derived.Test.YtbnfilhilgjnfaaDoorOf
import Derived.Lib.SlBytesConst
namespace Go.Proofs.YtbnfilhilgjnfaaDoor
set_option linter.unusedVariables false
set_option linter.unusedSimpArgs false
open Go.ChangeShapes Go.WideShapes Go.ChangeAt Go.RowKit

/-- a slice of slices that a call was just handed -/
theorem LL.one {w : World} {v : Value} {l : List Nat} (h : Byt w v l) : LL (w.alloc (.cells #[v] 30)) (.slice (some ⟨w.heap.size, 0, none⟩) 1 1) [(v, l)] := by
  refine ⟨_, 1, rfl, ⟨by simp, by unfold maxLen; omega⟩, fun i u m hi => ?_⟩
  match i, hi with
  | 0, hi =>
    obtain ⟨rfl, rfl⟩ : v = u ∧ l = m := by simpa using hi
    exact ⟨⟨_, rfl, by simp [Addr.add]⟩, h.call ((Below.refl _ _).alloc (Nat.le_refl _) _)⟩
  | i + 1, hi => simp at hi
theorem LL.two {w : World} {v v' : Value} {l l' : List Nat} (h : Byt w v l) (h' : Byt w v' l') : LL (w.alloc (.cells #[v, v'] 30)) (.slice (some ⟨w.heap.size, 0, none⟩) 2 2) [(v, l), (v', l')] := by
  refine ⟨_, 2, rfl, ⟨by simp, by unfold maxLen; omega⟩, fun i u m hi => ?_⟩
  match i, hi with
  | 0, hi =>
    obtain ⟨rfl, rfl⟩ : v = u ∧ l = m := by simpa using hi
    exact ⟨⟨_, rfl, by simp [Addr.add]⟩, h.call ((Below.refl _ _).alloc (Nat.le_refl _) _)⟩
  | 1, hi =>
    obtain ⟨rfl, rfl⟩ : v' = u ∧ l' = m := by simpa using hi
    exact ⟨⟨_, rfl, by simp [Addr.add]⟩, h'.call ((Below.refl _ _).alloc (Nat.le_refl _) _)⟩
  | i + 2, hi => simp at hi
theorem LL.three {w : World} {v v' v'' : Value} {l l' l'' : List Nat} (h : Byt w v l) (h' : Byt w v' l') (h'' : Byt w v'' l'') : LL (w.alloc (.cells #[v, v', v''] 30)) (.slice (some ⟨w.heap.size, 0, none⟩) 3 3) [(v, l), (v', l'), (v'', l'')] := by
  refine ⟨_, 3, rfl, ⟨by simp, by unfold maxLen; omega⟩, fun i u m hi => ?_⟩
  match i, hi with
  | 0, hi =>
    obtain ⟨rfl, rfl⟩ : v = u ∧ l = m := by simpa using hi
    exact ⟨⟨_, rfl, by simp [Addr.add]⟩, h.call ((Below.refl _ _).alloc (Nat.le_refl _) _)⟩
  | 1, hi =>
    obtain ⟨rfl, rfl⟩ : v' = u ∧ l' = m := by simpa using hi
    exact ⟨⟨_, rfl, by simp [Addr.add]⟩, h'.call ((Below.refl _ _).alloc (Nat.le_refl _) _)⟩
  | 2, hi =>
    obtain ⟨rfl, rfl⟩ : v'' = u ∧ l'' = m := by simpa using hi
    exact ⟨⟨_, rfl, by simp [Addr.add]⟩, h''.call ((Below.refl _ _).alloc (Nat.le_refl _) _)⟩
  | i + 3, hi => simp at hi

theorem u8_abc : U8 [97, 98, 99] := by
  show ∀ y ∈ [97, 98, 99], y < 256
  decide
def strOf (l : List Nat) : ByteArray := ⟨(l.map UInt8.ofNat).toArray⟩
theorem byt_convert {w : World} {v : Value} {l : List Nat} (h : Byt w v l) (h256 : ∀ y ∈ l, y < 256) : (convert 30 9 v).run Tryd.prog w = .ok (.string (strOf l)) w := by
  rcases h with ⟨rfl, rfl⟩ | ⟨a, cap, rfl, h1, h2, h3⟩
  · rw [run_convert_bytes_string w 30 9 5 none 0 0 Tryd.underlying30 Tryd.underlying5 Tryd.underlying9]
    simp [Conv.bytesToString]
    rfl
  · have q := run_convert_bytes_back (P := Tryd.prog) w 30 9 5 a cap (l.map UInt8.ofNat) Tryd.underlying30 Tryd.underlying5 Tryd.underlying9 (fun j hj => by
      have hj' : j < l.length := by simpa using hj
      rw [h3 j _ (List.getElem?_eq_getElem hj')]
      have := h256 _ (List.getElem_mem hj')
      simp; omega)
    rw [List.length_map] at q
    exact q
set_option maxHeartbeats 1000000 in
theorem equal_any (v x : Value) (l m : List Nat) (w : World) (hv : Byt w v l) (hx : Byt w x m) (hl : ∀ y ∈ l, y < 256) (hm : ∀ y ∈ m, y < 256) :
    Calls Tryd.prog 16 #[v, x] w fun e w' => e = .returned (.bool ((strOf l).toList == (strOf m).toList)) ∧ w = w' := by
  have c1 := byt_convert hv hl
  have c2 := byt_convert hx hm
  obtain ⟨a1, cap1, rfl⟩ := byt_shape hv
  obtain ⟨a2, cap2, rfl⟩ := byt_shape hx
  clear hv hx hl hm
  go_enter Tryd.func16, Tryd.ntmps16
  go_wp2
  go_ret
  exact ⟨rfl, rfl⟩
theorem equal_same (v x : Value) (l : List Nat) (w : World) (hv : Byt w v l) (hx : Byt w x l) (hl : ∀ y ∈ l, y < 256) :
    Calls Tryd.prog 16 #[v, x] w fun e w' => e = .returned (.bool true) ∧ w = w' :=
  (equal_any v x l l w hv hx hl hl).mono (fun e w' h => ⟨by rw [h.1]; simp, h.2⟩)

theorem lit_byt (w : World) (l : List Nat) (fr : Nat × Nat) (n : Nat) (hn : l.length = n) (hm : n ≤ 1000) : Byt (w.alloc (.cells ((bv l).toArray) 5 fr)) (.slice (some ⟨w.heap.size, 0, none⟩) n n) l := by
  subst hn
  refine .inr ⟨_, _, rfl, Nat.le_refl _, by unfold maxLen; omega, fun i y hy => ?_⟩
  rw [add_plain, World.cell?_alloc_mark]
  simp [bv, hy]


end Go.Proofs.YtbnfilhilgjnfaaDoor
