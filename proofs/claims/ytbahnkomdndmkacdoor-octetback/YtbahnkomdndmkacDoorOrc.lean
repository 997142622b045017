/- utf8.RuneCount over bytes in memory: as RuneCountInString of the same bytes. -/
import Derived.Test.YtbahnkomdndmkacDoorOvl
import Derived.Lib.RuneCountTail
namespace Go.Proofs.YtbahnkomdndmkacDoor
set_option linter.unusedVariables false
set_option linter.unusedSimpArgs false
open Go.ChangeShapes Go.WideShapes Go.ChangeAt Go.RowKit Go.Shelf

def nats (t : ByteArray) : List Nat := t.data.toList.map (·.toNat)
theorem nats_len (t : ByteArray) : (nats t).length = t.size := by rw [nats, List.length_map]; exact (Lib.size_eq t).symm
theorem nats_lt (t : ByteArray) : ∀ y ∈ nats t, y < 256 := by
  intro y hy
  obtain ⟨x, _, rfl⟩ := List.mem_map.1 hy
  exact x.toNat_lt
theorem nats_str (t : ByteArray) : strOf (nats t) = t := by
  have : (t.data.toList.map (·.toNat)).map UInt8.ofNat = t.data.toList := by
    rw [List.map_map]
    conv => rhs; rw [← List.map_id t.data.toList]
    exact List.map_congr_left fun x _ => by simp
  simp only [strOf, nats, this]
theorem Sl.byt {w : World} {b off cap : Nat} {t : ByteArray} (h : Sl w b off t) (hc : t.size ≤ cap) (hm : cap ≤ maxLen) : Byt w (.slice (some ⟨b, off, none⟩) t.size cap) (nats t) := by
  refine .inr ⟨⟨b, off, none⟩, cap, by rw [nats_len], by rw [nats_len]; exact hc, hm, fun i y hy => ?_⟩
  have hi : i < t.size := by
    have := (List.getElem?_eq_some_iff.1 hy).1
    rw [nats_len] at this
    exact this
  have hg := h i hi
  rw [add_plain, hg]
  rw [nats, List.getElem?_map] at hy
  obtain ⟨x, hx, rfl⟩ := Option.map_eq_some_iff.1 hy
  have : t.get! i = x := by rw [← Lib.getD_get!', List.getD_eq_getElem?_getD, hx]; rfl
  rw [this]

set_option maxHeartbeats 4000000 in
set_option maxRecDepth 100000 in
theorem count_any (b : Nat) (a : Option Addr) (cap : Nat) (s : ByteArray) (w : World) (hA : At w b a s) (hc : s.size ≤ cap) (hm : cap ≤ maxLen) (hs : s.size ≤ 1000000000) :
    Calls Tryd.prog 57 #[.slice a s.size cap] w fun e w' => e = .returned (.int .i64 (Lib.runeCount s)) ∧ Below w.heap.size w w' := by
  obtain ⟨n, hn⟩ : ∃ n, s.size = n := ⟨_, rfl⟩
  rw [hn] at hc hs ⊢
  go_enter Tryd.func57, Tryd.ntmps57
  go_wp2_with fail
  go_loop [2, 4] (fun r i => ∃ k : Nat, i = .int .i64 k ∧ k ≤ n ∧ ∀ j, j < k → (s.get! j).toNat < 128) (fun _ i => match i with | .int _ x => n - x.toNat | _ => 0)
  case atStart => exact ⟨0, rfl, by omega, fun j hj => by omega⟩
  case round =>
    obtain ⟨k, rfl, hk, hasc⟩ := hrel
    by_cases hlt : k < n
    · have hltz : (k : Int) < (n : Int) := by omega
      obtain ⟨off, rfl, hS⟩ := hA (by omega)
      obtain ⟨x, hx⟩ : ∃ x, s.get! k = x := ⟨_, rfl⟩
      have hc0 := hS k (by omega)
      rw [hx] at hc0
      have hxl : x.toNat < 256 := x.toNat_lt
      by_cases hx8 : x.toNat < 128
      · have h1 : ¬ ((128 : Int) ≤ (x.toNat : Int)) := by omega
        have e1 : wrap64 ((k : Int) + 1) = (k : Int) + 1 := by unfold wrap64; omega
        go_wp2_with fail
        go_round
        case rel => exact ⟨k + 1, by simp, by omega, fun j hj => by
          by_cases h : j = k
          · subst h; rw [hx]; exact hx8
          · exact hasc j (by omega)⟩
        case measure => simp; omega
      · have h1 : (128 : Int) ≤ (x.toNat : Int) := by omega
        have hkz : (k : Int) ≤ (n : Int) := by omega
        have ncap : ¬ (cap = k) := by omega
        have hsp := Lib.runeCount_split s k (by omega) hasc
        have S1 := hS.ext k
        have z1 : (s.extract k s.size).size = n - k := by rw [Lib.ext_size, hn]
        have hcv := byt_convert (S1.byt (cap := cap - k) (by rw [z1]; omega) (by omega)) (nats_lt _)
        rw [nats_str, z1] at hcv
        have hrl := Lib.runeCount_le (s.extract k s.size)
        rw [z1] at hrl
        obtain ⟨s1, hs1⟩ : ∃ s1, s.extract k s.size = s1 := ⟨_, rfl⟩
        rw [hs1] at hcv hsp hrl z1
        obtain ⟨ok, hok⟩ : ∃ ok, off + k = ok := ⟨_, rfl⟩
        obtain ⟨nk, hnk⟩ : ∃ nk, n - k = nk := ⟨_, rfl⟩
        obtain ⟨ck, hck⟩ : ∃ ck, cap - k = ck := ⟨_, rfl⟩
        rw [hok, hnk, hck] at hcv
        rw [hok] at hc0
        obtain ⟨R, hR⟩ : ∃ R, Lib.runeCount s1 = R := ⟨_, rfl⟩
        have hco : ∀ W, Calls Tryd.prog 40 #[.string s1] W fun e w' => e = .returned (.int .i64 (R : Int)) ∧ ∃ pos, w' = W.alloc (.stringIter s1 pos) := fun W => by rw [← hR]; exact counts_any s1 W (by omega)
        rw [hR] at hsp hrl
        have e1 : wrap64 ((k : Int) + (R : Int)) = (k : Int) + (R : Int) := by unfold wrap64; omega
        go_wp2_with (go_at_call 40; refine (hco _).mono ?_; rintro e w' ⟨rfl, pos, rfl⟩)
        go_ret
        exact ⟨by rw [hsp]; simp [e1], (Below.refl _ _).alloc (Nat.le_refl _) _⟩
    · obtain rfl : k = n := by omega
      have hlz : ¬ ((k : Int) < (k : Int)) := by omega
      go_wp2_with fail
      go_ret
      have := Lib.runeCount_split s k (by omega) hasc
      have hz := Lib.runeCount_le (s.extract k s.size)
      have hz0 : (s.extract k s.size).size = 0 := by rw [Lib.ext_size]; omega
      have hr : Lib.runeCount s = k := by omega
      exact ⟨by rw [hr]; rfl, Below.refl _ _⟩
end Go.Proofs.YtbahnkomdndmkacDoor
