/- Texts that are read, whatever they are. -/
import Derived.Test.YtbahnkomdndmkacDoorOrc
namespace Go.Proofs.YtbahnkomdndmkacDoor
set_option linter.unusedVariables false
set_option linter.unusedSimpArgs false
open Go.ChangeShapes Go.WideShapes Go.ChangeAt Go.RowKit Go.Shelf

/-- no old block but this one has turned -/
def Oth (w w' : World) (g : Nat) : Prop := ∀ j, j < w.heap.size → j ≠ g → w'.heap[j]? = w.heap[j]?
def High (v : Value) (g : Nat) : Prop := ∀ a n cap, v = .slice (some a) n cap → 0 < n → g < a.block
theorem Byt.oth {w w1 : World} {g : Nat} {v : Value} {l : List Nat} (h : Byt w v l) (hb : Oth w w1 g) (hg : High v g) : Byt w1 v l := by
  rcases h with h | ⟨a, cap, hv, h1, h2, h3⟩
  · exact .inl h
  · refine .inr ⟨a, cap, hv, h1, h2, fun i y hy => ?_⟩
    have hpos : 0 < l.length := by
      cases l with
      | nil => simp at hy
      | cons x l => simp
    have h4 := h3 i y hy
    have hlt := lt_of_cell h4
    have hne := hg a _ cap hv hpos
    have e : (a.add i).block = a.block := by
      obtain ⟨b, off, s⟩ := a
      simp only [Addr.add]
      split <;> rfl
    rw [e] at hlt
    have hbl := hb a.block hlt (by omega)
    unfold World.cell? at h4 ⊢
    rw [e] at h4 ⊢
    rw [hbl]
    exact h4
theorem own_high {w : World} {v : Value} {n base g : Nat} {xs : List Value} (h : w.ownsRow base 5 1 v n xs) (hg : g < base) : High v g := by
  intro a m cap e hm
  rcases h.2 with ⟨e2, _⟩ | ⟨g', cap', cur, e2, hb, _⟩
  · rw [e2] at e; cases e
  · rw [e2] at e
    injection e with e3 _ _
    injection e3 with e3
    subst e3
    exact Nat.lt_of_lt_of_le hg hb
theorem At.below {w w' : World} {b : Nat} {a : Option Addr} {t : ByteArray} (h : At w b a t) (hb : Below w.heap.size w w') : At w' b a t := fun h0 => by
  obtain ⟨off, e, hS⟩ := h h0
  exact ⟨off, e, hS.below hb⟩
theorem At.of_byt {w : World} {a : Option Addr} {n cap : Nat} {t : ByteArray} (h : Byt w (.slice a n cap) (nats t)) : ∃ b, At w b a t := by
  by_cases h0 : 0 < t.size
  · rcases h with ⟨_, h1⟩ | ⟨a1, cap1, e, c1, c2, c3⟩
    · rw [← nats_len, h1] at h0; simp at h0
    injection e with e1 e2 e3
    subst e1
    obtain ⟨b1, off1, rfl⟩ := plain_of c3 (by rw [nats_len]; exact h0)
    refine ⟨b1, fun _ => ⟨off1, rfl, fun i hi => ?_⟩⟩
    have q := c3 i (t.get! i).toNat (by
      rw [nats, List.getElem?_map, List.getElem?_eq_getElem (by rw [← Lib.size_eq]; exact hi), ← Lib.getD_get!', List.getD_eq_getElem?_getD, List.getElem?_eq_getElem (by rw [← Lib.size_eq]; exact hi)]
      rfl)
    rw [add_plain] at q
    exact q
  · exact ⟨0, fun h => absurd h h0⟩
theorem byt_cap {w : World} {a : Option Addr} {n cap : Nat} {l : List Nat} (h : Byt w (.slice a n cap) l) : cap ≤ maxLen ∧ l.length = n ∧ n ≤ cap := by
  rcases h with ⟨e, rfl⟩ | ⟨a1, cap1, e, c1, c2, c3⟩
  · injection e with _ e1 e2
    subst e1 e2
    exact ⟨by decide, rfl, Nat.le_refl _⟩
  · injection e with _ e1 e2
    subst e1 e2
    exact ⟨c2, rfl, c1⟩

set_option maxHeartbeats 1000000 in
theorem right_any (a : Option Addr) (n cap : Nat) (s : ByteArray) (q : Nat) (w : World) (hT : Lib.Utf8Tabs 0 1 w) (hB : Byt w (.slice a n cap) (nats s)) (hs : s.size ≤ 1000000000) (hV : Lib.validD s.data.toList = true) (hq : Lib.runeCount s ≤ q) :
    Calls Tryd.prog 49 #[.slice a n cap, .int .i64 (q : Int)] w fun e w' => e = .returned (.int .i64 0) ∧ Below w.heap.size w w' := by
  obtain ⟨b, hA⟩ := At.of_byt hB
  obtain ⟨hm, hn, hc⟩ := byt_cap hB
  rw [nats_len] at hn
  subst hn
  go_enter Tryd.func49, Tryd.ntmps49
  go_wp2_with fail
  refine (valid_any b a cap s _ hA hc hs hT hV).mono ?_
  rintro e w1 ⟨rfl, hb1⟩
  go_wp2_with fail
  refine (count_any b a cap s _ (hA.below hb1) hc hm hs).mono ?_
  rintro e w2 ⟨rfl, hb2⟩
  have hq1 : ¬ ((q : Int) < (Lib.runeCount s : Int)) := by omega
  go_wp2
  go_ret
  exact ⟨rfl, hb1.trans (hb2.mono hb1.size)⟩

set_option maxHeartbeats 1000000 in
theorem right_long (a : Option Addr) (n cap : Nat) (s : ByteArray) (q : Nat) (w : World) (hT : Lib.Utf8Tabs 0 1 w) (hB : Byt w (.slice a n cap) (nats s)) (hs : s.size ≤ 1000000000) (hV : Lib.validD s.data.toList = true) (hq : q < Lib.runeCount s) :
    Calls Tryd.prog 49 #[.slice a n cap, .int .i64 (q : Int)] w fun e w' => e = .returned (.int .i64 4) ∧ Below w.heap.size w w' := by
  obtain ⟨b, hA⟩ := At.of_byt hB
  obtain ⟨hm, hn, hc⟩ := byt_cap hB
  rw [nats_len] at hn
  subst hn
  go_enter Tryd.func49, Tryd.ntmps49
  go_wp2_with fail
  refine (valid_any b a cap s _ hA hc hs hT hV).mono ?_
  rintro e w1 ⟨rfl, hb1⟩
  go_wp2_with fail
  refine (count_any b a cap s _ (hA.below hb1) hc hm hs).mono ?_
  rintro e w2 ⟨rfl, hb2⟩
  have hq1 : ((q : Int) < (Lib.runeCount s : Int)) := by omega
  go_wp2
  go_ret
  exact ⟨rfl, hb1.trans (hb2.mono hb1.size)⟩

set_option maxHeartbeats 2000000 in
theorem Text_any (g : Nat) (a : Option Addr) (n cap : Nat) (l : List Nat) (k : Nat) (s : ByteArray) (q : Nat) (w : World) (hT : Lib.Utf8Tabs 0 1 w) (hv : Byt w (.slice a n cap) l) (hr : Rdr w g (.slice a n cap) k 0) (hg : Low (.slice a n cap) g) (hl : n ≤ 1000000000) (h256 : ∀ y ∈ l, y < 256)
    (hm : numOf ((l.drop k).take 8) = s.size) (hk : k + 8 + s.size ≤ n) (hb : (l.drop (k + 8)).take s.size = nats s) (hV : Lib.validD s.data.toList = true) (hq : q ≤ 16384) (hrc : Lib.runeCount s ≤ q) (hsz : s.size ≤ 4 * q) :
    Calls Tryd.prog 26 #[.pointer (some ⟨g, 0, none⟩), .int .i64 (q : Int)] w fun e w' => e = .returned (.string s) ∧ Rdr w' g (.slice a n cap) (k + 8 + s.size) 0 ∧ Below g w w' ∧ Oth w w' g := by
  have HM := hide hm
  have HB := hide hb
  have H256 := hide h256
  have HV := hide hV
  clear hm hb h256 hV
  have hPF := hr.1.1
  have hgz := hr.1.2
  have hq' := Pl.fresh (w := w) (v := .slice a n cap) (k := k)
  have hb0 : Below w.heap.size w (w.alloc (.cells #[.slice a n cap, .int .i64 (k : Int)] 63)) := (Below.refl _ _).alloc (Nat.le_refl _) _
  have hv1 := hv.call hb0
  have hg1 : Low (.slice a n cap) w.heap.size := hg.mono (Nat.le_of_lt hgz)
  have x1 : max (q : Int) 0 = (q : Int) := by omega
  have x2 : min (q : Int) 16384 = (q : Int) := by omega
  have x3 : wrap64 (4 * (q : Int)) = 4 * (q : Int) := by unfold wrap64; omega
  have x4 : ¬ ((q : Int) < 0) := by omega
  have x5 : ¬ ((16384 : Int) < (q : Int)) := by omega
  go_enter Tryd.func26, Tryd.ntmps26
  go_wp2_with fail
  refine (err_any g _ k 0 _ hr).mono ?_
  rintro e w0 ⟨rfl, rfl⟩
  go_wp2_with fail
  refine (bytes_any w.heap.size 0 a n cap l k (4 * (q : Int)) _ hv1 hq' hg1 hl (unhide H256) s.size (unhide HM) hk (by omega)).mono ?_
  rintro e w1 ⟨v1, rfl, hd1, hq1, hm1, hlow1⟩
  rw [unhide HB] at hd1
  have hbelow : Below w.heap.size w w1 := hb0.trans hm1.1
  obtain ⟨a1, cap1, rfl⟩ := byt_shape hd1
  rw [nats_len] at hd1 hlow1 ⊢
  have hT1 := Utf8Tabs_below hT hbelow
  have hr1 : Rdr w1 g (.slice a n cap) k 0 := hr.below (hbelow.mono hgz)
  go_wp2_with fail
  refine (right_any a1 _ cap1 s q _ hT1 hd1 (by omega) (unhide HV) hrc).mono ?_
  rintro e w2 ⟨rfl, hb2⟩
  have hr2 : Rdr w2 g (.slice a n cap) k 0 := hr1.below (hb2.mono hr1.1.2)
  have hq2 : Pl w2 w.heap.size 0 (.slice a n cap) (k + 8 + s.size) := hq1.below (hb2.mono hq1.2)
  have hd2 : Byt w2 (.slice a1 s.size cap1) (nats s) := hd1.call hb2
  have hput := Pl.put hr2.1 (.slice a n cap) (k + 8 + s.size)
  rw [show ((k + 8 + s.size : Nat) : Int) = (k : Int) + 8 + (s.size : Int) by omega] at hput
  have hd3 := hd2.low (g := g) hput.2.1 (hlow1 g hg)
  have hcv := byt_convert hd3 (nats_lt s)
  rw [nats_str] at hcv
  have hr3 := hide (hr2.moved hput.1 hput.2)
  have hm3 := hide hput.2
  clear hput
  have hQF := hq2.1
  have hPF2 := hr2.1.1
  clear hPF
  go_wp2_with fail
  go_ret
  exact ⟨rfl, unhide hr3, (hbelow.trans (hb2.mono hbelow.size)).mono (Nat.le_of_lt hgz) |>.trans (unhide hm3).1, fun j hj hjg => ((unhide hm3).2.2.2 j (Nat.lt_of_lt_of_le hj (Nat.le_trans hbelow.size hb2.size)) hjg).trans ((hb2.block j (Nat.lt_of_lt_of_le hj hbelow.size)).trans (hbelow.block j hj))⟩

set_option maxHeartbeats 2000000 in
theorem Text_long (g : Nat) (a : Option Addr) (n cap : Nat) (l : List Nat) (k : Nat) (s : ByteArray) (q : Nat) (w : World) (hT : Lib.Utf8Tabs 0 1 w) (hv : Byt w (.slice a n cap) l) (hr : Rdr w g (.slice a n cap) k 0) (hg : Low (.slice a n cap) g) (hl : n ≤ 1000000000) (h256 : ∀ y ∈ l, y < 256)
    (hm : numOf ((l.drop k).take 8) = s.size) (hk : k + 8 + s.size ≤ n) (hb : (l.drop (k + 8)).take s.size = nats s) (hV : Lib.validD s.data.toList = true) (hq : 16384 < q) (hq9 : q ≤ 1000000000) (hrc : 16384 < Lib.runeCount s) (hsz : s.size ≤ 65536) :
    Calls Tryd.prog 26 #[.pointer (some ⟨g, 0, none⟩), .int .i64 (q : Int)] w fun e w' => (∃ t, e = .returned (.string t)) ∧ Below g w w' ∧ Oth w w' g := by
  have HM := hide hm
  have HB := hide hb
  have H256 := hide h256
  have HV := hide hV
  clear hm hb h256 hV
  have hPF := hr.1.1
  have hgz := hr.1.2
  have hq' := Pl.fresh (w := w) (v := .slice a n cap) (k := k)
  have hb0 : Below w.heap.size w (w.alloc (.cells #[.slice a n cap, .int .i64 (k : Int)] 63)) := (Below.refl _ _).alloc (Nat.le_refl _) _
  have hv1 := hv.call hb0
  have hg1 : Low (.slice a n cap) w.heap.size := hg.mono (Nat.le_of_lt hgz)
  have x1 : max (q : Int) 0 = (q : Int) := by omega
  have x2 : min (q : Int) 16384 = 16384 := by omega
  have x4 : ¬ ((q : Int) < 0) := by omega
  have x5 : ((16384 : Int) < (q : Int)) := by omega
  go_enter Tryd.func26, Tryd.ntmps26
  go_wp2_with fail
  refine (err_any g _ k 0 _ hr).mono ?_
  rintro e w0 ⟨rfl, rfl⟩
  go_wp2_with fail
  refine (bytes_any w.heap.size 0 a n cap l k 65536 _ hv1 hq' hg1 hl (unhide H256) s.size (unhide HM) hk (by omega)).mono ?_
  rintro e w1 ⟨v1, rfl, hd1, hq1, hm1, hlow1⟩
  rw [unhide HB] at hd1
  have hbelow : Below w.heap.size w w1 := hb0.trans hm1.1
  obtain ⟨a1, cap1, rfl⟩ := byt_shape hd1
  rw [nats_len] at hd1 hlow1 ⊢
  have hT1 := Utf8Tabs_below hT hbelow
  have hr1 : Rdr w1 g (.slice a n cap) k 0 := hr.below (hbelow.mono hgz)
  go_wp2_with fail
  refine (right_long a1 _ cap1 s 16384 _ hT1 hd1 (by omega) (unhide HV) hrc).mono ?_
  rintro e w2 ⟨rfl, hb2⟩
  have hr2 : Rdr w2 g (.slice a n cap) k 0 := hr1.below (hb2.mono hr1.1.2)
  have hE := hr2.2
  have hbb := (hbelow.trans (hb2.mono hbelow.size)).mono (Nat.le_of_lt hgz)
  go_wp2_with fail
  go_ret
  exact ⟨⟨_, rfl⟩, hbb.setCell (Nat.le_refl g) _, fun j hj hjg => (Below.heap_setCell _ _ _ _ hjg).trans ((hb2.block j (Nat.lt_of_lt_of_le hj hbelow.size)).trans (hbelow.block j hj))⟩

set_option maxHeartbeats 1000000 in
theorem Bytes_x (g : Nat) (a : Option Addr) (n cap : Nat) (l : List Nat) (k : Nat) (most : Int) (w : World) (hv : Byt w (.slice a n cap) l) (hr : Rdr w g (.slice a n cap) k 0) (hg : Low (.slice a n cap) g) (hl : n ≤ 1000000000) (h256 : ∀ y ∈ l, y < 256)
    (m : Nat) (hm : numOf ((l.drop k).take 8) = m) (hk : k + 8 + m ≤ n) (hmost : (m : Int) ≤ max most 0) :
    Calls Tryd.prog 24 #[.pointer (some ⟨g, 0, none⟩), .int .i64 most] w fun e w' => ∃ v', e = .returned v' ∧ Byt w' v' ((l.drop (k + 8)).take m) ∧ High v' g ∧ Rdr w' g (.slice a n cap) (k + 8 + m) 0 ∧ Below g w w' ∧ Oth w w' g := by
  have HM := hide hm
  have H256 := hide h256
  have hlen : ((l.drop (k + 8)).take m).length ≤ 1000000000 := by rw [List.length_take]; omega
  have HLN := hide hlen
  clear hm h256 hlen
  go_enter Tryd.func24, Tryd.ntmps24
  go_wp2_with fail
  refine (err_any g _ k 0 _ hr).mono ?_
  rintro e w0 ⟨rfl, rfl⟩
  go_wp2_with fail
  refine (bytes_any g 0 a n cap l k most _ hv hr.1 hg hl (unhide H256) m (unhide HM) hk hmost).mono ?_
  rintro e w1 ⟨v1, rfl, hd1, hp1, hm1, hlow1⟩
  have hr1 := hr.moved hp1 hm1
  have hc := hr1.2
  have hd2 : Byt (w1.setCell ⟨g, 3, none⟩ (.int .i64 0)) v1 ((l.drop (k + 8)).take m) := hd1.low ((Below.refl g w1).setCell (Nat.le_refl g) _) (hlow1 g hg)
  have hr2 := hr1.err 0
  have hb2 : Below g w (w1.setCell ⟨g, 3, none⟩ (.int .i64 0)) := hm1.1.setCell (Nat.le_refl g) _
  have HS : Hid (∀ j, j ≠ g → (w1.setCell ⟨g, 3, none⟩ (.int .i64 0)).heap[j]? = w1.heap[j]?) := hide (fun j hj => Below.heap_setCell _ _ _ _ hj)
  have HZ : Hid ((w1.setCell ⟨g, 3, none⟩ (.int .i64 0)).heap.size = w1.heap.size) := hide (by simp)
  go_wp2_with fail
  refine (clone_any v1 _ _ hd2 (unhide HLN)).mono ?_
  rintro e w3 ⟨v3, rfl, ho3, hb3⟩
  have hr3 := hr2.below (hb3.mono hr2.1.2)
  have hb4 := hb2.trans (hb3.mono (Nat.le_of_lt hr2.1.2))
  have HH := own_high ho3 hr2.1.2
  go_wp2
  go_ret
  exact ⟨_, rfl, Byt.of_own ho3, HH, hr3, hb4, fun j hj hjg => (hb3.block j (by have := unhide HZ; have := hm1.1.size; omega)).trans ((unhide HS j hjg).trans (hm1.2.2.2 j hj hjg))⟩

theorem decodeN_le4 (n b0 b1 b2 b3 : Nat) : (Lib.decodeN n b0 b1 b2 b3).2 ≤ 4 := by
  unfold Lib.decodeN
  repeat' split
  all_goals first | exact Nat.le_refl _ | (show _ ≤ 4; decide) | simp
theorem count4 (s : ByteArray) : ∀ fuel pos, s.size - pos ≤ fuel → s.size - pos ≤ 4 * Lib.runeCountFrom s fuel pos
  | 0, pos, h => by omega
  | f + 1, pos, h => by
    by_cases hp : pos < s.size
    · have h1 := Lib.decode_width_pos s pos hp
      have h4 : (Utf8.decode s pos).2 ≤ 4 := by rw [Lib.decode_at]; exact decodeN_le4 _ _ _ _ _
      have ih := count4 s f (pos + (Utf8.decode s pos).2) (by omega)
      unfold Lib.runeCountFrom
      rw [if_pos hp]
      omega
    · omega
theorem size_le4 (s : ByteArray) : s.size ≤ 4 * Lib.runeCount s := by
  have := count4 s s.size 0 (by omega)
  exact this
/-- numbers in a slice -/
def Ints (w : World) (la : Option Addr) (n : Nat) (N : Nat → Int) : Prop :=
  n = 0 ∨ ∃ b off, la = some ⟨b, off, none⟩ ∧ b < w.heap.size ∧ ∀ i, i < n → w.cell? ⟨b, off + i, none⟩ = some (.int .i64 (N i))
theorem Ints.call {w w1 : World} {la : Option Addr} {n : Nat} {N : Nat → Int} (h : Ints w la n N) (hb : Below w.heap.size w w1) : Ints w1 la n N := by
  rcases h with h | ⟨b, off, h1, h2, h3⟩
  · exact .inl h
  · exact .inr ⟨b, off, h1, Nat.lt_of_lt_of_le h2 hb.size, fun i hi => cell_keep hb h2 (h3 i hi)⟩

set_option maxHeartbeats 1000000 in
theorem appnum_max (base : Nat) (v : Value) (l : List Nat) (n : Int) (u : Nat) (w : World) (hmx : max n 0 = (u : Int)) (ho : w.ownsRow base 5 1 v l.length (bv l)) (hbase : base ≤ w.heap.size) (hl : l.length ≤ 1000000000) (hu : u ≤ 9223372036854775807) :
    Calls Tryd.prog 42 #[v, .int .i64 n] w fun e w' => ∃ v', e = .returned v' ∧ w'.ownsRow base 5 1 v' (l ++ num8 u).length (bv (l ++ num8 u)) ∧ Below base w w' := by
  obtain ⟨i0, hi, hz0, hz1, hz2⟩ := info_parts info5
  go_enter Tryd.func42, Tryd.ntmps42
  go_wp2_with fail
  go_loopw [0, 6] (fun v s wr => ∃ k : Nat, k ≤ 8 ∧ s = .int .i64 (56 - 8 * (k : Int)) ∧ wr.ownsRow base 5 1 v (l ++ (num8 u).take k).length (bv (l ++ (num8 u).take k)) ∧ Below base w wr) (fun _ s _ => (intOf s + 8).toNat)
  case atStart => exact ⟨0, by omega, rfl, by simpa using ho, Below.refl _ _⟩
  case round =>
    obtain ⟨k, hk, rfl, hown, bel⟩ := hrel
    have hlen : (l ++ (num8 u).take k).length ≤ 1000000010 := by
      rw [List.length_append, List.length_take, num8_len]
      omega
    by_cases hlt : k < 8
    · have hge : (0 : Int) ≤ 56 - 8 * (k : Int) := by omega
      go_wp2_with (at_builtin; refine wpList_append_own _ rfl _ _ 22 rfl base 5 i0 (.int .u8 0) 1 1 Tryd.underlying22 hi hz0 hz1 hz2 rfl (by decide) _ _ _ rfl (hown.alloc _) ⟨wr.heap.size, 0, none⟩ 1 1 [.int .u8 ((u : Int) / 2 ^ (56 - 8 * k) % 256)] rfl rfl ?c1 ?c2 ?c3 ?c4 ?c5 ?_)
      case c1 =>
        intro j x hj
        match j, hj with
        | 0, hj => simp at hj; subst hj; simp [Addr.add]
      case c2 => intro x hx; simp at hx; subst hx; rfl
      case c3 => unfold maxLen; omega
      case c4 => omega
      case c5 => have := bel.size; simp; omega
      intro v' w1 hown' hgrow _
      have hb1 : Below base w w1 := (bel.alloc (by have := bel.size; omega) _).grown hgrow (by have := bel.size; simp; omega) (fun g hg => (hown.lt g hg).1)
      go_wp2
      go_roundw
      case rel =>
        refine ⟨k + 1, by omega, by go_num, ?_, hb1⟩
        have e1 : l ++ (num8 u).take (k + 1) = (l ++ (num8 u).take k) ++ [byteK u k] := by rw [num8_take u k hlt, List.append_assoc]
        have e2 : bv [byteK u k] = [.int .u8 ((u : Int) / 2 ^ (56 - 8 * k) % 256)] := by simp [bv, byteK]
        rw [e1, bv_append, List.length_append, e2]
        simp only [List.length_append, List.length_take, List.length_cons, List.length_nil] at hown' ⊢
        exact hown'
      case measure => simp [intOf]; omega
    · have hk8 : k = 8 := by omega
      subst hk8
      have hlt0 : ¬ (0 : Int) ≤ 56 - 8 * ((8 : Nat) : Int) := by omega
      have e1 : (num8 u).take 8 = num8 u := List.take_of_length_le (by rw [num8_len]; omega)
      rw [e1] at hown
      clear e1
      go_wp2
      go_ret
      rw [List.length_append] at hown
      exact ⟨_, rfl, hown, bel⟩


set_option maxHeartbeats 1000000 in
theorem putm_any (v : Value) (l : List Nat) (la : Option Addr) (n cap : Nat) (N : Nat → Int) (w : World) (hv : Byt w v l) (hl : l.length ≤ 100000000) (hn : n ≤ 1000) (hI : Ints w la n N)
    (hN : ∀ i, i < n → N i ≤ 9223372036854775807) :
    Calls Tryd.prog 39 #[v, .slice la n cap] w fun e w' => ∃ v', e = .returned v' ∧ w'.ownsRow w.heap.size 5 1 v' (putN l N n).length (bv (putN l N n)) ∧ Below w.heap.size w w' := by
  have HNN := hide hN
  clear hN
  go_enter Tryd.func39, Tryd.ntmps39
  go_wp2_with fail
  have hc8 : (8 * (n : Int)) = ((8 * n : Nat) : Int) := by omega
  rw [hc8]
  refine (roomy_any v l (8 * n) _ hv (by omega) (by omega)).mono ?_
  rintro e w1 ⟨v1, rfl, ho1, hb1⟩
  clear hc8
  go_wp2_with fail
  go_loopw [5, 15] (fun v i wr => ∃ k : Nat, k ≤ n ∧ i = .int .i64 k ∧ wr.ownsRow w.heap.size 5 1 v (putN l N k).length (bv (putN l N k)) ∧ Below w.heap.size w wr) (fun _ i _ => n - (intOf i).toNat)
  case atStart => exact ⟨0, by omega, rfl, ho1, hb1⟩
  case round =>
    obtain ⟨k, hk, rfl, hown, bel⟩ := hrel
    by_cases hlt : k < n
    · rcases hI with h | ⟨b, off, rfl, hb, hcs⟩
      · omega
      have hc := cell_keep bel hb (hcs k hlt)
      have hN0 := unhide HNN k hlt
      have g1 : (0 : Int) ≤ (k : Int) := by omega
      have g2 : (k : Int) < (n : Int) := by omega
      have hlen := putN_len l N k
      have HLn := hide hlen
      clear hlen
      go_wp2_with fail
      refine (appnum_max w.heap.size _ _ (N k) (N k).toNat _ (by omega) hown bel.size (by rw [unhide HLn]; omega) (by omega)).mono ?_
      rintro e w2 ⟨v2, rfl, ho2, hb2⟩
      go_wp2
      go_roundw
      case rel => exact ⟨k + 1, by omega, by go_num, ho2, bel.trans hb2⟩
      case measure => simp [intOf]; omega
    · have hkn : k = n := by omega
      subst hkn
      go_wp2
      go_ret
      exact ⟨_, rfl, hown, bel⟩


end Go.Proofs.YtbahnkomdndmkacDoor
