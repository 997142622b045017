/- utf8.RuneCount over bytes; a reader, whatever the bytes are. -/
import Derived.Test.YtbnfilhilgjnfaaDoorQOvl
import Derived.Lib.RuneCountTail
import Derived.Test.YtbnfilhilgjnfaaDoorQA
namespace Go.Proofs.YtbnfilhilgjnfaaDoor.Oc
set_option linter.unusedVariables false
set_option maxRecDepth 100000
set_option linter.unusedSimpArgs false
open Go.ChangeShapes Go.WideShapes Go.ChangeAt Go.RowKit Go.Shelf

def nats (t : ByteArray) : List Nat := t.data.toList.map (·.toNat)
theorem nats_len (t : ByteArray) : (nats t).length = t.size := by rw [nats, List.length_map]; exact (Lib.size_eq t).symm
theorem nats_lt (t : ByteArray) : ∀ y ∈ nats t, y < 256 := by
  intro y hy
  obtain ⟨x, _, rfl⟩ := List.mem_map.1 hy
  exact x.toNat_lt
theorem nats_str (t : ByteArray) : strOf (nats t) = t := by
  have : (t.data.toList.map (·.toNat)).map UInt8.ofNat = t.data.toList := by
    rw [List.map_map]
    conv => rhs; rw [← List.map_id t.data.toList]
    exact List.map_congr_left fun x _ => by simp
  simp only [strOf, nats, this]
theorem Sl.byt {w : World} {b off cap : Nat} {t : ByteArray} (h : Sl w b off t) (hc : t.size ≤ cap) (hm : cap ≤ maxLen) : Byt w (.slice (some ⟨b, off, none⟩) t.size cap) (nats t) := by
  refine .inr ⟨⟨b, off, none⟩, cap, by rw [nats_len], by rw [nats_len]; exact hc, hm, fun i y hy => ?_⟩
  have hi : i < t.size := by
    have := (List.getElem?_eq_some_iff.1 hy).1
    rw [nats_len] at this
    exact this
  have hg := h i hi
  rw [add_plain, hg]
  rw [nats, List.getElem?_map] at hy
  obtain ⟨x, hx, rfl⟩ := Option.map_eq_some_iff.1 hy
  have : t.get! i = x := by rw [← Lib.getD_get!', List.getD_eq_getElem?_getD, hx]; rfl
  rw [this]

set_option maxHeartbeats 4000000 in
set_option maxRecDepth 100000 in
theorem count_any (b : Nat) (a : Option Addr) (cap : Nat) (s : ByteArray) (w : World) (hA : At w b a s) (hc : s.size ≤ cap) (hm : cap ≤ maxLen) (hs : s.size ≤ 1000000000) :
    Calls Tryd.prog 81 #[.slice a s.size cap] w fun e w' => e = .returned (.int .i64 (Lib.runeCount s)) ∧ Below w.heap.size w w' := by
  obtain ⟨n, hn⟩ : ∃ n, s.size = n := ⟨_, rfl⟩
  rw [hn] at hc hs ⊢
  go_enter Tryd.func81, Tryd.ntmps81
  go_wp2_with fail
  go_loop [2, 4] (fun r i => ∃ k : Nat, i = .int .i64 k ∧ k ≤ n ∧ ∀ j, j < k → (s.get! j).toNat < 128) (fun _ i => match i with | .int _ x => n - x.toNat | _ => 0)
  case atStart => exact ⟨0, rfl, by omega, fun j hj => by omega⟩
  case round =>
    obtain ⟨k, rfl, hk, hasc⟩ := hrel
    by_cases hlt : k < n
    · have hltz : (k : Int) < (n : Int) := by omega
      obtain ⟨off, rfl, hS⟩ := hA (by omega)
      obtain ⟨x, hx⟩ : ∃ x, s.get! k = x := ⟨_, rfl⟩
      have hc0 := hS k (by omega)
      rw [hx] at hc0
      have hxl : x.toNat < 256 := x.toNat_lt
      by_cases hx8 : x.toNat < 128
      · have h1 : ¬ ((128 : Int) ≤ (x.toNat : Int)) := by omega
        have e1 : wrap64 ((k : Int) + 1) = (k : Int) + 1 := by unfold wrap64; omega
        go_wp2_with fail
        go_round
        case rel => exact ⟨k + 1, by simp, by omega, fun j hj => by
          by_cases h : j = k
          · subst h; rw [hx]; exact hx8
          · exact hasc j (by omega)⟩
        case measure => simp; omega
      · have h1 : (128 : Int) ≤ (x.toNat : Int) := by omega
        have hkz : (k : Int) ≤ (n : Int) := by omega
        have ncap : ¬ (cap = k) := by omega
        have hsp := Lib.runeCount_split s k (by omega) hasc
        have S1 := hS.ext k
        have z1 : (s.extract k s.size).size = n - k := by rw [Lib.ext_size, hn]
        have hcv := byt_convert (S1.byt (cap := cap - k) (by rw [z1]; omega) (by omega)) (nats_lt _)
        rw [nats_str, z1] at hcv
        have hrl := Lib.runeCount_le (s.extract k s.size)
        rw [z1] at hrl
        obtain ⟨s1, hs1⟩ : ∃ s1, s.extract k s.size = s1 := ⟨_, rfl⟩
        rw [hs1] at hcv hsp hrl z1
        obtain ⟨ok, hok⟩ : ∃ ok, off + k = ok := ⟨_, rfl⟩
        obtain ⟨nk, hnk⟩ : ∃ nk, n - k = nk := ⟨_, rfl⟩
        obtain ⟨ck, hck⟩ : ∃ ck, cap - k = ck := ⟨_, rfl⟩
        rw [hok, hnk, hck] at hcv
        rw [hok] at hc0
        obtain ⟨R, hR⟩ : ∃ R, Lib.runeCount s1 = R := ⟨_, rfl⟩
        have hco : ∀ W, Calls Tryd.prog 66 #[.string s1] W fun e w' => e = .returned (.int .i64 (R : Int)) ∧ ∃ pos, w' = W.alloc (.stringIter s1 pos) := fun W => by rw [← hR]; exact counts_any s1 W (by omega)
        rw [hR] at hsp hrl
        have e1 : wrap64 ((k : Int) + (R : Int)) = (k : Int) + (R : Int) := by unfold wrap64; omega
        go_wp2_with (go_at_call 66; refine (hco _).mono ?_; rintro e w' ⟨rfl, pos, rfl⟩)
        go_ret
        exact ⟨by rw [hsp]; simp [e1], (Below.refl _ _).alloc (Nat.le_refl _) _⟩
    · obtain rfl : k = n := by omega
      have hlz : ¬ ((k : Int) < (k : Int)) := by omega
      go_wp2_with fail
      go_ret
      have := Lib.runeCount_split s k (by omega) hasc
      have hz := Lib.runeCount_le (s.extract k s.size)
      have hz0 : (s.extract k s.size).size = 0 := by rw [Lib.ext_size]; omega
      have hr : Lib.runeCount s = k := by omega
      exact ⟨by rw [hr]; rfl, Below.refl _ _⟩
end Go.Proofs.YtbnfilhilgjnfaaDoor.Oc

namespace Go.Proofs.YtbnfilhilgjnfaaDoor.Oc
set_option linter.unusedVariables false
set_option linter.unusedSimpArgs false
set_option maxRecDepth 100000
open Go.ChangeShapes Go.WideShapes Go.ChangeAt Go.RowKit

/-- no old block but this one has turned -/
def Oth (w w' : World) (g : Nat) : Prop := ∀ j, j < w.heap.size → j ≠ g → w'.heap[j]? = w.heap[j]?
/-- what a read leaves as it was -/
structure Stp (w w' : World) (g : Nat) : Prop where
  low : Below g w w'
  oth : Oth w w' g
theorem Stp.refl (w : World) (g : Nat) : Stp w w g := ⟨Below.refl _ _, fun _ _ _ => rfl⟩
theorem Stp.trans {a b c : World} {g : Nat} (h : Stp a b g) (h' : Stp b c g) : Stp a c g :=
  ⟨h.low.trans h'.low, fun j hj hg => (h'.oth j (Nat.lt_of_lt_of_le hj h.low.size) hg).trans (h.oth j hj hg)⟩
theorem Stp.of_below {w w' : World} {g : Nat} (hg : g ≤ w.heap.size) (h : Below w.heap.size w w') : Stp w w' g := ⟨h.mono hg, fun j hj _ => h.block j hj⟩
/-- a reader over these bytes, here, with this error -/
structure RdS (w : World) (g : Nat) (a : Option Addr) (n cap : Nat) (l : List Nat) (k : Nat) (e : Int) : Prop where
  byt : Byt w (.slice a n cap) l
  rdr : Rdr w g (.slice a n cap) k e
  low : Low (.slice a n cap) g
  len : n ≤ 1000000000
  le : k ≤ n
  u8 : ∀ y ∈ l, y < 256
theorem RdS.n_eq {w : World} {g : Nat} {a : Option Addr} {n cap : Nat} {l : List Nat} {k : Nat} {e : Int} (h : RdS w g a n cap l k e) : l.length = n := byt_len h.byt
theorem RdS.lt {w : World} {g : Nat} {a : Option Addr} {n cap : Nat} {l : List Nat} {k : Nat} {e : Int} (h : RdS w g a n cap l k e) : g < w.heap.size := h.rdr.1.2
theorem RdS.step {w w' : World} {g : Nat} {a : Option Addr} {n cap : Nat} {l : List Nat} {k k' : Nat} {e e' : Int} (h : RdS w g a n cap l k e) (hs : Below g w w') (hr : Rdr w' g (.slice a n cap) k' e') (hk : k' ≤ n) : RdS w' g a n cap l k' e' :=
  ⟨h.byt.low hs h.low, hr, h.low, h.len, hk, h.u8⟩
theorem RdS.call {w w' : World} {g : Nat} {a : Option Addr} {n cap : Nat} {l : List Nat} {k : Nat} {e : Int} (h : RdS w g a n cap l k e) (hb : Below w.heap.size w w') : RdS w' g a n cap l k e :=
  h.step (hb.mono (Nat.le_of_lt h.lt)) (h.rdr.below (hb.mono h.lt)) h.le
def winR (l : List Nat) (lo hi : Int) (k : Nat) (e : Int) : Int × Nat × Int :=
  if e ≠ 0 then (0, k, e)
  else if l.length < k + 8 then (0, k, 2)
  else if 9223372036854775807 < numOf ((l.drop k).take 8) ∨ (numOf ((l.drop k).take 8) : Int) < lo ∨ hi < (numOf ((l.drop k).take 8) : Int) then (0, k, 5)
  else ((numOf ((l.drop k).take 8) : Int), k + 8, 0)
def WiR (l : List Nat) (x : Int × Nat × Int) (w : World) (g : Nat) (a : Option Addr) (n cap : Nat) (r : Ending) (w' : World) : Prop := r = .returned (.int .i64 x.1) ∧ RdS w' g a n cap l x.2.1 x.2.2 ∧ Stp w w' g
set_option maxHeartbeats 1000000 in
theorem within_tot (g : Nat) (a : Option Addr) (n cap : Nat) (l : List Nat) (k : Nat) (e lo hi : Int) (w : World) (hS : RdS w g a n cap l k e) :
    Calls Tryd.prog 54 #[.pointer (some ⟨g, 0, none⟩), .int .i64 lo, .int .i64 hi] w fun r w' => WiR l (winR l lo hi k e) w g a n cap r w' := by
  have HS := hide hS
  have hln := hS.n_eq
  unfold winR
  by_cases he : e = 0
  · subst he
    rw [if_neg (by simp)]
    by_cases h8 : l.length < k + 8
    · rw [if_pos h8]
      have HB : Hid (BadNum l k lo hi 2) := hide (.inl ⟨h8, rfl⟩)
      clear h8 hS
      go_enter Tryd.func54, Tryd.ntmps54
      go_wp2_with fail
      refine (err_any g _ k 0 _ (unhide HS).rdr).mono ?_
      rintro e w0 ⟨rfl, rfl⟩
      go_wp2_with fail
      refine (within_bad g 0 a n cap l k lo hi 2 _ (unhide HS).byt (unhide HS).rdr.1 (unhide HS).low (unhide HS).len (unhide HS).le (unhide HS).u8 (unhide HB)).mono ?_
      rintro e w1 ⟨rfl, hb1⟩
      have hS1 := (unhide HS).call hb1
      have hc := hS1.rdr.2
      have HS1 := hide hS1
      have HB1 := hide hb1
      clear hb1 hS1
      go_wp2_with fail
      go_ret
      exact ⟨rfl, (unhide HS1).step ((Below.refl g w1).setCell (Nat.le_refl g) _) ((unhide HS1).rdr.err 2) (unhide HS1).le, (Stp.of_below (Nat.le_of_lt (unhide HS).lt) (unhide HB1)).trans ⟨(Below.refl g w1).setCell (Nat.le_refl g) _, fun j _ hj => Below.heap_setCell _ _ _ _ hj⟩⟩
    · rw [if_neg h8]
      by_cases hr : 9223372036854775807 < numOf ((l.drop k).take 8) ∨ (numOf ((l.drop k).take 8) : Int) < lo ∨ hi < (numOf ((l.drop k).take 8) : Int)
      · rw [if_pos hr]
        have HB : Hid (BadNum l k lo hi 5) := hide (.inr ⟨by omega, hr, rfl⟩)
        clear h8 hS hr
        go_enter Tryd.func54, Tryd.ntmps54
        go_wp2_with fail
        refine (err_any g _ k 0 _ (unhide HS).rdr).mono ?_
        rintro e w0 ⟨rfl, rfl⟩
        go_wp2_with fail
        refine (within_bad g 0 a n cap l k lo hi 5 _ (unhide HS).byt (unhide HS).rdr.1 (unhide HS).low (unhide HS).len (unhide HS).le (unhide HS).u8 (unhide HB)).mono ?_
        rintro e w1 ⟨rfl, hb1⟩
        have hS1 := (unhide HS).call hb1
        have hc := hS1.rdr.2
        have HS1 := hide hS1
        have HB1 := hide hb1
        clear hb1 hS1
        go_wp2_with fail
        go_ret
        exact ⟨rfl, (unhide HS1).step ((Below.refl g w1).setCell (Nat.le_refl g) _) ((unhide HS1).rdr.err 5) (unhide HS1).le, (Stp.of_below (Nat.le_of_lt (unhide HS).lt) (unhide HB1)).trans ⟨(Below.refl g w1).setCell (Nat.le_refl g) _, fun j _ hj => Below.heap_setCell _ _ _ _ hj⟩⟩
      · rw [if_neg hr]
        obtain ⟨u, hu⟩ : ∃ u, numOf ((l.drop k).take 8) = u := ⟨_, rfl⟩
        rw [hu] at hr ⊢
        have HU := hide hu
        have HR := hide hr
        have HK : Hid (k + 8 ≤ n) := hide (by omega)
        clear hu hr h8 hS
        go_enter Tryd.func54, Tryd.ntmps54
        go_wp2_with fail
        refine (err_any g _ k 0 _ (unhide HS).rdr).mono ?_
        rintro e w0 ⟨rfl, rfl⟩
        go_wp2_with fail
        refine (within_any g 0 a n cap l k lo hi _ (unhide HS).byt (unhide HS).rdr.1 (unhide HS).low (unhide HS).len (unhide HK) (unhide HS).u8 u (unhide HU) (by have := unhide HR; omega) (by have := unhide HR; omega)).mono ?_
        rintro e w1 ⟨rfl, hp1, hm1⟩
        have hr1 := (unhide HS).rdr.moved hp1 hm1
        have hc := hr1.2
        have HR1 := hide hr1
        have HM1 := hide hm1
        clear hp1 hm1 hr1
        go_wp2_with fail
        go_ret
        exact ⟨rfl, (unhide HS).step ((unhide HM1).1.setCell (Nat.le_refl g) _) ((unhide HR1).err 0) (unhide HK), (Stp.mk (unhide HM1).1 (unhide HM1).2.2.2).trans ⟨(Below.refl g w1).setCell (Nat.le_refl g) _, fun j _ hj => Below.heap_setCell _ _ _ _ hj⟩⟩
  · rw [if_pos he]
    have heb : (e != 0) = true := by simp [he]
    clear he hS
    go_enter Tryd.func54, Tryd.ntmps54
    go_wp2_with fail
    refine (err_any g _ k e _ (unhide HS).rdr).mono ?_
    rintro r w0 ⟨rfl, rfl⟩
    go_wp2_with fail
    go_ret
    exact ⟨rfl, unhide HS, Stp.refl _ _⟩
def numR (l : List Nat) (k : Nat) (e : Int) : Int × Nat × Int := winR l 0 9223372036854775807 k e
set_option maxHeartbeats 1000000 in
theorem number_tot (g : Nat) (a : Option Addr) (n cap : Nat) (l : List Nat) (k : Nat) (e : Int) (w : World) (hS : RdS w g a n cap l k e) :
    Calls Tryd.prog 37 #[.pointer (some ⟨g, 0, none⟩)] w fun r w' => WiR l (numR l k e) w g a n cap r w' := by
  have HS := hide hS
  clear hS
  go_enter Tryd.func37, Tryd.ntmps37
  go_wp2_with fail
  refine (within_tot g a n cap l k e 0 9223372036854775807 _ (unhide HS)).mono ?_
  rintro r w0 ⟨rfl, h1, h2⟩
  have H1 := hide h1
  have H2 := hide h2
  clear h1 h2
  go_wp2
  go_ret
  exact ⟨rfl, unhide H1, unhide H2⟩
def endE (n k : Nat) (e : Int) : Int := if e ≠ 0 then e else if k < n then 3 else 0
set_option maxHeartbeats 1000000 in
theorem end_tot (g : Nat) (a : Option Addr) (n cap : Nat) (l : List Nat) (k : Nat) (e : Int) (w : World) (hS : RdS w g a n cap l k e) :
    Calls Tryd.prog 39 #[.pointer (some ⟨g, 0, none⟩)] w fun r w' => r = .returned (.int .i64 (endE n k e)) ∧ ∃ d, w' = w.drewN d := by
  have HS := hide hS
  have hk := hS.le
  have hn := hS.len
  unfold endE
  by_cases he : e = 0
  · subst he
    rw [if_neg (by simp)]
    clear hS
    go_enter Tryd.func39, Tryd.ntmps39
    go_wp2_with fail
    refine (err_any g _ k 0 _ (unhide HS).rdr).mono ?_
    rintro e w0 ⟨rfl, rfl⟩
    go_wp2_with fail
    refine (left_any g 0 a n cap k _ (unhide HS).rdr.1 hk (by unfold maxLen; omega)).mono ?_
    rintro e w' ⟨rfl, d, rfl⟩
    by_cases hlt : k < n
    · have hz : (0 : Int) < (n : Int) - (k : Int) := by omega
      have HE : Hid ((if k < n then (3 : Int) else 0) = 3) := hide (if_pos hlt)
      go_wp2_with fail
      go_ret
      exact ⟨by first | rfl | (rw [unhide HE]; rfl), d, rfl⟩
    · have hz : ¬ (0 : Int) < (n : Int) - (k : Int) := by omega
      have HE : Hid ((if k < n then (3 : Int) else 0) = 0) := hide (if_neg hlt)
      go_wp2_with fail
      go_ret
      exact ⟨by first | rfl | (rw [unhide HE]; rfl), d, rfl⟩
  · rw [if_pos he]
    have heb : (e != 0) = true := by simp [he]
    clear he hS
    go_enter Tryd.func39, Tryd.ntmps39
    go_wp2_with fail
    refine (err_any g _ k e _ (unhide HS).rdr).mono ?_
    rintro r w0 ⟨rfl, rfl⟩
    go_wp2_with fail
    go_ret
    exact ⟨rfl, 0, rfl⟩
end Go.Proofs.YtbnfilhilgjnfaaDoor.Oc

namespace Go.Proofs.YtbnfilhilgjnfaaDoor.Oc
set_option linter.unusedVariables false
set_option linter.unusedSimpArgs false
set_option maxRecDepth 100000
open Go.ChangeShapes Go.WideShapes Go.ChangeAt Go.RowKit Go.Shelf

theorem At.below {w w' : World} {b : Nat} {a : Option Addr} {t : ByteArray} (h : At w b a t) (hb : Below w.heap.size w w') : At w' b a t := fun h0 => by
  obtain ⟨off, e, hS⟩ := h h0
  exact ⟨off, e, hS.below hb⟩
theorem At.of_byt {w : World} {a : Option Addr} {n cap : Nat} {t : ByteArray} (h : Byt w (.slice a n cap) (nats t)) : ∃ b, At w b a t := by
  by_cases h0 : 0 < t.size
  · rcases h with ⟨_, h1⟩ | ⟨a1, cap1, e, c1, c2, c3⟩
    · rw [← nats_len, h1] at h0; simp at h0
    injection e with e1 e2 e3
    subst e1
    obtain ⟨b1, off1, rfl⟩ := plain_of c3 (by rw [nats_len]; exact h0)
    refine ⟨b1, fun _ => ⟨off1, rfl, fun i hi => ?_⟩⟩
    have q := c3 i (t.get! i).toNat (by
      rw [nats, List.getElem?_map, List.getElem?_eq_getElem (by rw [← Lib.size_eq]; exact hi), ← Lib.getD_get!', List.getD_eq_getElem?_getD, List.getElem?_eq_getElem (by rw [← Lib.size_eq]; exact hi)]
      rfl)
    rw [add_plain] at q
    exact q
  · exact ⟨0, fun h => absurd h h0⟩
theorem byt_cap {w : World} {a : Option Addr} {n cap : Nat} {l : List Nat} (h : Byt w (.slice a n cap) l) : cap ≤ maxLen ∧ l.length = n ∧ n ≤ cap := by
  rcases h with ⟨e, rfl⟩ | ⟨a1, cap1, e, c1, c2, c3⟩
  · injection e with _ e1 e2
    subst e1 e2
    exact ⟨by decide, rfl, Nat.le_refl _⟩
  · injection e with _ e1 e2
    subst e1 e2
    exact ⟨c2, rfl, c1⟩
theorem nats_of {l : List Nat} (h : ∀ y ∈ l, y < 256) : nats (strOf l) = l := by
  unfold nats strOf
  simp only [List.map_map]
  conv => rhs; rw [← List.map_id l]
  refine List.map_congr_left (fun y hy => ?_)
  have := h y hy
  simp
  omega
def rightE (s : ByteArray) (q : Nat) : Int := if Lib.validD s.data.toList = false then 21 else if q < Lib.runeCount s then 4 else 0
set_option maxHeartbeats 1000000 in
theorem right_tot (a : Option Addr) (n cap : Nat) (s : ByteArray) (q : Nat) (w : World) (hT : Lib.Utf8Tabs 2 3 w) (hB : Byt w (.slice a n cap) (nats s)) (hs : s.size ≤ 1000000000) :
    Calls Tryd.prog 69 #[.slice a n cap, .int .i64 (q : Int)] w fun e w' => e = .returned (.int .i64 (rightE s q)) ∧ Below w.heap.size w w' := by
  obtain ⟨b, hA⟩ := At.of_byt hB
  obtain ⟨hm, hn, hc⟩ := byt_cap hB
  rw [nats_len] at hn
  subst hn
  unfold rightE
  cases hV : Lib.validD s.data.toList with
  | false =>
    rw [if_pos rfl]
    go_enter Tryd.func69, Tryd.ntmps69
    go_wp2_with fail
    refine (valid_any b a cap s _ hA hc hs hT false hV).mono ?_
    rintro e w1 ⟨rfl, hb1⟩
    go_wp2_with fail
    go_ret
    exact ⟨rfl, hb1⟩
  | true =>
    rw [if_neg (by simp)]
    by_cases hq : q < Lib.runeCount s
    · rw [if_pos hq]
      have hq1 : ((q : Int) < (Lib.runeCount s : Int)) := by omega
      go_enter Tryd.func69, Tryd.ntmps69
      go_wp2_with fail
      refine (valid_any b a cap s _ hA hc hs hT true hV).mono ?_
      rintro e w1 ⟨rfl, hb1⟩
      go_wp2_with fail
      refine (count_any b a cap s _ (hA.below hb1) hc hm hs).mono ?_
      rintro e w2 ⟨rfl, hb2⟩
      go_wp2
      go_ret
      exact ⟨rfl, hb1.trans (hb2.mono hb1.size)⟩
    · rw [if_neg hq]
      have hq1 : ¬ ((q : Int) < (Lib.runeCount s : Int)) := by omega
      go_enter Tryd.func69, Tryd.ntmps69
      go_wp2_with fail
      refine (valid_any b a cap s _ hA hc hs hT true hV).mono ?_
      rintro e w1 ⟨rfl, hb1⟩
      go_wp2_with fail
      refine (count_any b a cap s _ (hA.below hb1) hc hm hs).mono ?_
      rintro e w2 ⟨rfl, hb2⟩
      go_wp2
      go_ret
      exact ⟨rfl, hb1.trans (hb2.mono hb1.size)⟩
/-- the bytes that a text would have -/
def bodyT (l : List Nat) (k : Nat) : ByteArray := strOf ((l.drop (k + 8)).take (numOf ((l.drop k).take 8)))
def textR (l : List Nat) (q k : Nat) (e : Int) : ByteArray × Nat × Int :=
  if e ≠ 0 then (⟨#[]⟩, k, e)
  else if l.length < k + 8 then (⟨#[]⟩, k, 2)
  else if 9223372036854775807 < numOf ((l.drop k).take 8) then (⟨#[]⟩, k, 5)
  else if 4 * q < numOf ((l.drop k).take 8) then (⟨#[]⟩, k, 4)
  else if l.length < k + 8 + numOf ((l.drop k).take 8) then (⟨#[]⟩, k, 2)
  else if rightE (bodyT l k) q ≠ 0 then (⟨#[]⟩, k, rightE (bodyT l k) q)
  else (bodyT l k, k + 8 + numOf ((l.drop k).take 8), 0)
def TxR (l : List Nat) (x : ByteArray × Nat × Int) (w : World) (g : Nat) (a : Option Addr) (n cap : Nat) (r : Ending) (w' : World) : Prop := r = .returned (.string x.1) ∧ RdS w' g a n cap l x.2.1 x.2.2 ∧ Stp w w' g
set_option maxHeartbeats 2000000 in
theorem text_bad (g : Nat) (a : Option Addr) (n cap : Nat) (l : List Nat) (k : Nat) (q : Nat) (e0 : Int) (w : World) (hS : RdS w g a n cap l k 0) (hq : q ≤ 16384) (hbad : BadBytes l k (4 * (q : Int)) e0) (he0 : e0 ≠ 0) :
    Calls Tryd.prog 55 #[.pointer (some ⟨g, 0, none⟩), .int .i64 (q : Int)] w fun r w' => TxR l (⟨#[]⟩, k, e0) w g a n cap r w' := by
  have HS := hide hS
  have HBD := hide hbad
  have he : (e0 != 0) = true := by simp [he0]
  have heb : (e0 == 0) = false := by simp [he0]
  have HE := hide he0
  have hPF := hS.rdr.1.1
  have HGZ := hide hS.lt
  have hq' := Pl.fresh (w := w) (v := .slice a n cap) (k := k)
  have hb0 : Below w.heap.size w (w.alloc (.cells #[.slice a n cap, .int .i64 (k : Int)] 82)) := (Below.refl _ _).alloc (Nat.le_refl _) _
  have HBA := hide (bytes_bad w.heap.size 0 a n cap l k (4 * (q : Int)) e0 (w.alloc (.cells #[.slice a n cap, .int .i64 (k : Int)] 82)) (hS.byt.call hb0) hq' (hS.low.mono (Nat.le_of_lt hS.lt)) hS.len hS.le hS.u8 hbad)
  have HB0 := hide hb0
  have x1 : max (q : Int) 0 = (q : Int) := by omega
  have x2 : min (q : Int) 16384 = (q : Int) := by omega
  have x3 : wrap64 (4 * (q : Int)) = 4 * (q : Int) := by unfold wrap64; omega
  have x4 : ¬ ((q : Int) < 0) := by omega
  have x5 : ¬ ((16384 : Int) < (q : Int)) := by omega
  clear hS hbad he0 hb0 hq'
  go_enter Tryd.func55, Tryd.ntmps55
  go_wp2_with fail
  refine (err_any g _ k 0 _ (unhide HS).rdr).mono ?_
  rintro e w0 ⟨rfl, rfl⟩
  go_wp2_with fail
  refine Calls.mono (unhide HBA) ?_
  rintro e w1 ⟨rfl, hb1⟩
  have hbw : Below w.heap.size w w1 := (unhide HB0).trans (hb1.mono (unhide HB0).size)
  have hS1 := (unhide HS).call hbw
  have hE := hS1.rdr.2
  have HS1 := hide hS1
  have HBW := hide hbw
  clear hb1 hbw hS1 hPF HBA
  go_wp2_with fail
  go_ret
  exact ⟨rfl, (unhide HS1).step ((Below.refl g w1).setCell (Nat.le_refl g) _) ((unhide HS1).rdr.err e0) (unhide HS1).le, (Stp.of_below (Nat.le_of_lt (unhide HGZ)) (unhide HBW)).trans ⟨(Below.refl g w1).setCell (Nat.le_refl g) _, fun j _ hj => Below.heap_setCell _ _ _ _ hj⟩⟩
set_option maxHeartbeats 2000000 in
theorem text_no (g : Nat) (a : Option Addr) (n cap : Nat) (l : List Nat) (k : Nat) (q m : Nat) (e0 : Int) (w : World) (hT : Lib.Utf8Tabs 2 3 w) (hS : RdS w g a n cap l k 0) (hq : q ≤ 16384) (hm : numOf ((l.drop k).take 8) = m) (hk : k + 8 + m ≤ n) (hmq : m ≤ 4 * q) (hr : rightE (bodyT l k) q = e0) (he0 : e0 ≠ 0) :
    Calls Tryd.prog 55 #[.pointer (some ⟨g, 0, none⟩), .int .i64 (q : Int)] w fun r w' => TxR l (⟨#[]⟩, k, e0) w g a n cap r w' := by
  have HS := hide hS
  have he : (e0 != 0) = true := by simp [he0]
  have heb : (e0 == 0) = false := by simp [he0]
  have HE := hide he0
  have HRT := hide hr
  have HT := hide hT
  have hPF := hS.rdr.1.1
  have HGZ := hide hS.lt
  have hq' := Pl.fresh (w := w) (v := .slice a n cap) (k := k)
  have hb0 : Below w.heap.size w (w.alloc (.cells #[.slice a n cap, .int .i64 (k : Int)] 82)) := (Below.refl _ _).alloc (Nat.le_refl _) _
  have HBA := hide (bytes_any w.heap.size 0 a n cap l k (4 * (q : Int)) (w.alloc (.cells #[.slice a n cap, .int .i64 (k : Int)] 82)) (hS.byt.call hb0) hq' (hS.low.mono (Nat.le_of_lt hS.lt)) hS.len hS.u8 m hm hk (by omega))
  have HBD : Hid (nats (bodyT l k) = (l.drop (k + 8)).take m) := hide (by rw [bodyT, hm]; exact nats_of (fun y hy => hS.u8 y (List.mem_of_mem_drop (List.mem_of_mem_take hy))))
  have HSZ : Hid ((bodyT l k).size ≤ 1000000000) := hide (by rw [← nats_len, unhide HBD, List.length_take]; have := hS.len; omega)
  have HB0 := hide hb0
  have x1 : max (q : Int) 0 = (q : Int) := by omega
  have x2 : min (q : Int) 16384 = (q : Int) := by omega
  have x3 : wrap64 (4 * (q : Int)) = 4 * (q : Int) := by unfold wrap64; omega
  have x4 : ¬ ((q : Int) < 0) := by omega
  have x5 : ¬ ((16384 : Int) < (q : Int)) := by omega
  clear hS he0 hb0 hq' hr hT hm hk
  go_enter Tryd.func55, Tryd.ntmps55
  go_wp2_with fail
  refine (err_any g _ k 0 _ (unhide HS).rdr).mono ?_
  rintro e w0 ⟨rfl, rfl⟩
  go_wp2_with fail
  refine Calls.mono (unhide HBA) ?_
  rintro e w1 ⟨v1, rfl, hd1, hq1, hm1, hlow1⟩
  rw [← unhide HBD] at hd1
  have hbw : Below w.heap.size w w1 := (unhide HB0).trans hm1.1
  obtain ⟨a1, cap1, rfl⟩ := byt_shape hd1
  rw [nats_len] at hd1 ⊢
  have HRI := hide (right_tot a1 _ cap1 (bodyT l k) q w1 (Utf8Tabs_below (unhide HT) hbw) hd1 (unhide HSZ))
  rw [unhide HRT] at HRI
  have HBW := hide hbw
  clear hd1 hq1 hm1 hlow1 hbw hPF HBA
  go_wp2_with fail
  refine Calls.mono (unhide HRI) ?_
  rintro e w2 ⟨rfl, hb2⟩
  have HB2 := hide ((unhide HBW).trans (hb2.mono (unhide HBW).size))
  have hS1 := (unhide HS).call (unhide HB2)
  have hE := hS1.rdr.2
  have HS1 := hide hS1
  clear hb2 hS1
  go_wp2_with fail
  go_ret
  exact ⟨rfl, (unhide HS1).step ((Below.refl g w2).setCell (Nat.le_refl g) _) ((unhide HS1).rdr.err e0) (unhide HS1).le, (Stp.of_below (Nat.le_of_lt (unhide HGZ)) (unhide HB2)).trans ⟨(Below.refl g w2).setCell (Nat.le_refl g) _, fun j _ hj => Below.heap_setCell _ _ _ _ hj⟩⟩
set_option maxHeartbeats 2000000 in
theorem text_ok (g : Nat) (a : Option Addr) (n cap : Nat) (l : List Nat) (k : Nat) (q m : Nat) (w : World) (hT : Lib.Utf8Tabs 2 3 w) (hS : RdS w g a n cap l k 0) (hq : q ≤ 16384) (hm : numOf ((l.drop k).take 8) = m) (hk : k + 8 + m ≤ n) (hmq : m ≤ 4 * q) (hr : rightE (bodyT l k) q = 0) :
    Calls Tryd.prog 55 #[.pointer (some ⟨g, 0, none⟩), .int .i64 (q : Int)] w fun r w' => TxR l (bodyT l k, k + 8 + m, 0) w g a n cap r w' := by
  have HS := hide hS
  have HRT := hide hr
  have HT := hide hT
  have hPF := hS.rdr.1.1
  have HGZ := hide hS.lt
  have HK := hide hk
  have hq' := Pl.fresh (w := w) (v := .slice a n cap) (k := k)
  have hb0 : Below w.heap.size w (w.alloc (.cells #[.slice a n cap, .int .i64 (k : Int)] 82)) := (Below.refl _ _).alloc (Nat.le_refl _) _
  have HBA := hide (bytes_any w.heap.size 0 a n cap l k (4 * (q : Int)) (w.alloc (.cells #[.slice a n cap, .int .i64 (k : Int)] 82)) (hS.byt.call hb0) hq' (hS.low.mono (Nat.le_of_lt hS.lt)) hS.len hS.u8 m hm hk (by omega))
  have HBD : Hid (nats (bodyT l k) = (l.drop (k + 8)).take m) := hide (by rw [bodyT, hm]; exact nats_of (fun y hy => hS.u8 y (List.mem_of_mem_drop (List.mem_of_mem_take hy))))
  have HSZ : Hid ((bodyT l k).size ≤ 1000000000) := hide (by rw [← nats_len, unhide HBD, List.length_take]; have := hS.len; omega)
  have HB0 := hide hb0
  have x1 : max (q : Int) 0 = (q : Int) := by omega
  have x2 : min (q : Int) 16384 = (q : Int) := by omega
  have x3 : wrap64 (4 * (q : Int)) = 4 * (q : Int) := by unfold wrap64; omega
  have x4 : ¬ ((q : Int) < 0) := by omega
  have x5 : ¬ ((16384 : Int) < (q : Int)) := by omega
  clear hS hb0 hq' hr hT hm hk
  go_enter Tryd.func55, Tryd.ntmps55
  go_wp2_with fail
  refine (err_any g _ k 0 _ (unhide HS).rdr).mono ?_
  rintro e w0 ⟨rfl, rfl⟩
  go_wp2_with fail
  refine Calls.mono (unhide HBA) ?_
  rintro e w1 ⟨v1, rfl, hd1, hq1, hm1, hlow1⟩
  rw [← unhide HBD] at hd1
  have hbw : Below w.heap.size w w1 := (unhide HB0).trans hm1.1
  obtain ⟨a1, cap1, rfl⟩ := byt_shape hd1
  rw [nats_len] at hd1 hlow1 ⊢
  have HRI := hide (right_tot a1 _ cap1 (bodyT l k) q w1 (Utf8Tabs_below (unhide HT) hbw) hd1 (unhide HSZ))
  rw [unhide HRT] at HRI
  have HBW := hide hbw
  have HQ1 := hide hq1
  have HD1 := hide hd1
  have HLW := hide (hlow1 g (unhide HS).low)
  clear hd1 hq1 hm1 hlow1 hbw hPF HBA
  go_wp2_with fail
  refine Calls.mono (unhide HRI) ?_
  rintro e w2 ⟨rfl, hb2⟩
  have HB2 := hide ((unhide HBW).trans (hb2.mono (unhide HBW).size))
  have hr2 := ((unhide HS).call (unhide HB2)).rdr
  have hq2 : Pl w2 w.heap.size 0 (.slice a n cap) (k + 8 + m) := (unhide HQ1).below (hb2.mono (unhide HQ1).2)
  have hd2 := (unhide HD1).call hb2
  have hput := Pl.put hr2.1 (.slice a n cap) (k + 8 + m)
  rw [show ((k + 8 + m : Nat) : Int) = (k : Int) + 8 + (m : Int) by omega] at hput
  have hd3 := hd2.low (g := g) hput.2.1 (unhide HLW)
  have hcv := byt_convert hd3 (nats_lt (bodyT l k))
  rw [nats_str] at hcv
  have HR3 := hide (hr2.moved hput.1 hput.2)
  have HM3 := hide hput.2
  have hQF := hq2.1
  have hPF2 := hr2.1.1
  clear hput hb2 hd2 hd3
  rw [show ((k + 8 + m : Nat) : Int) = (k : Int) + 8 + (m : Int) by omega] at hQF
  go_wp2_with fail
  go_ret
  exact ⟨rfl, (unhide HS).step ((unhide HB2).mono (Nat.le_of_lt (unhide HGZ)) |>.trans (unhide HM3).1) (unhide HR3) (unhide HK), (Stp.of_below (Nat.le_of_lt (unhide HGZ)) (unhide HB2)).trans ⟨(unhide HM3).1, (unhide HM3).2.2.2⟩⟩
theorem text_tot (g : Nat) (a : Option Addr) (n cap : Nat) (l : List Nat) (k : Nat) (q : Nat) (e : Int) (w : World) (hT : Lib.Utf8Tabs 2 3 w) (hS : RdS w g a n cap l k e) (hq : q ≤ 16384) :
    Calls Tryd.prog 55 #[.pointer (some ⟨g, 0, none⟩), .int .i64 (q : Int)] w fun r w' => TxR l (textR l q k e) w g a n cap r w' := by
  have hln := hS.n_eq
  unfold textR
  by_cases he : e = 0
  · subst he
    rw [if_neg (by simp)]
    by_cases h8 : l.length < k + 8
    · rw [if_pos h8]
      exact text_bad g a n cap l k q 2 w hS hq (.inl ⟨h8, rfl⟩) (by decide)
    rw [if_neg h8]
    by_cases h63 : 9223372036854775807 < numOf ((l.drop k).take 8)
    · rw [if_pos h63]
      exact text_bad g a n cap l k q 5 w hS hq (.inr (.inl ⟨by omega, h63, rfl⟩)) (by decide)
    rw [if_neg h63]
    by_cases hmq : 4 * q < numOf ((l.drop k).take 8)
    · rw [if_pos hmq]
      exact text_bad g a n cap l k q 4 w hS hq (.inr (.inr (.inl ⟨by omega, by omega, by omega, rfl⟩))) (by decide)
    rw [if_neg hmq]
    by_cases hsh : l.length < k + 8 + numOf ((l.drop k).take 8)
    · rw [if_pos hsh]
      exact text_bad g a n cap l k q 2 w hS hq (.inr (.inr (.inr ⟨by omega, by omega, by omega, hsh, rfl⟩))) (by decide)
    rw [if_neg hsh]
    by_cases hr : rightE (bodyT l k) q = 0
    · rw [if_neg (by simp [hr])]
      exact text_ok g a n cap l k q _ w hT hS hq rfl (by omega) (by omega) hr
    · rw [if_pos hr]
      exact text_no g a n cap l k q _ _ w hT hS hq rfl (by omega) (by omega) rfl hr
  · rw [if_pos he]
    have heb : (e != 0) = true := by simp [he]
    have HS := hide hS
    clear he hS hT
    go_enter Tryd.func55, Tryd.ntmps55
    go_wp2_with fail
    refine (err_any g _ k e _ (unhide HS).rdr).mono ?_
    rintro r w0 ⟨rfl, rfl⟩
    go_wp2_with fail
    go_ret
    exact ⟨rfl, unhide HS, Stp.refl _ _⟩
end Go.Proofs.YtbnfilhilgjnfaaDoor.Oc
