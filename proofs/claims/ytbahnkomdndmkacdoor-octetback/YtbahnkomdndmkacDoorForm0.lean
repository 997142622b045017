/- What a reader answers where nothing can be read; prefixes. -/
import Derived.Test.YtbahnkomdndmkacDoorCases
namespace Go.Proofs.YtbahnkomdndmkacDoor
set_option linter.unusedVariables false
set_option linter.unusedSimpArgs false
open Go.ChangeShapes Go.WideShapes Go.ChangeAt Go.RowKit Go.Joins

/-- why no number can be read -/
def BadNum (l : List Nat) (k : Nat) (lo hi e0 : Int) : Prop :=
  (l.length < k + 8 ∧ e0 = 2) ∨ (k + 8 ≤ l.length ∧ (9223372036854775807 < numOf ((l.drop k).take 8) ∨ (numOf ((l.drop k).take 8) : Int) < lo ∨ hi < (numOf ((l.drop k).take 8) : Int)) ∧ e0 = 5)
theorem badNum_pos {l : List Nat} {k : Nat} {lo hi e0 : Int} (h : BadNum l k lo hi e0) : e0 ≠ 0 := by
  rcases h with ⟨_, rfl⟩ | ⟨_, _, rfl⟩ <;> decide
theorem within_bad (g o : Nat) (a : Option Addr) (n cap : Nat) (l : List Nat) (k : Nat) (lo hi e0 : Int) (w : World) (hv : Byt w (.slice a n cap) l) (hp : Pl w g o (.slice a n cap) k) (hg : Low (.slice a n cap) g) (hl : n ≤ 1000000000) (hkn : k ≤ n) (h256 : ∀ y ∈ l, y < 256)
    (hbad : BadNum l k lo hi e0) :
    Calls Tryd.prog 47 #[.pointer (some ⟨g, o, none⟩), .int .i64 lo, .int .i64 hi] w fun e w' => e = .returned (.tuple #[.int .i64 0, .int .i64 e0]) ∧ Below w.heap.size w w' := by
  have hln := byt_len hv
  rcases hbad with ⟨h1, rfl⟩ | ⟨h1, h2, rfl⟩
  · exact within_short g o a n cap k lo hi w hp hl hkn (by omega)
  · exact within_range g o a n cap l k lo hi w hv hp hg hl (by omega) h256 _ rfl h2

set_option maxHeartbeats 1000000 in
theorem Within_bad (g : Nat) (a : Option Addr) (n cap : Nat) (l : List Nat) (k : Nat) (lo hi e0 : Int) (w : World) (hv : Byt w (.slice a n cap) l) (hr : Rdr w g (.slice a n cap) k 0) (hg : Low (.slice a n cap) g) (hl : n ≤ 1000000000) (hkn : k ≤ n) (h256 : ∀ y ∈ l, y < 256)
    (hbad : BadNum l k lo hi e0) :
    Calls Tryd.prog 22 #[.pointer (some ⟨g, 0, none⟩), .int .i64 lo, .int .i64 hi] w fun e w' => e = .returned (.int .i64 0) ∧ Rdr w' g (.slice a n cap) k e0 ∧ Below g w w' := by
  have HB := hide hbad
  have H256 := hide h256
  clear hbad h256
  go_enter Tryd.func22, Tryd.ntmps22
  go_wp2_with fail
  refine (err_any g _ k 0 _ hr).mono ?_
  rintro e w0 ⟨rfl, rfl⟩
  go_wp2_with fail
  refine (within_bad g 0 a n cap l k lo hi e0 _ hv hr.1 hg hl hkn (unhide H256) (unhide HB)).mono ?_
  rintro e w1 ⟨rfl, hb1⟩
  have hr1 := hr.below (hb1.mono hr.1.2)
  have hc := hr1.2
  have hz : g ≤ w.heap.size := Nat.le_of_lt hr.1.2
  go_wp2_with fail
  go_ret
  refine ⟨rfl, hr1.err e0, (hb1.mono hz).setCell (Nat.le_refl g) _⟩

set_option maxHeartbeats 1000000 in
theorem Number_bad (g : Nat) (a : Option Addr) (n cap : Nat) (l : List Nat) (k : Nat) (e0 : Int) (w : World) (hv : Byt w (.slice a n cap) l) (hr : Rdr w g (.slice a n cap) k 0) (hg : Low (.slice a n cap) g) (hl : n ≤ 1000000000) (hkn : k ≤ n) (h256 : ∀ y ∈ l, y < 256)
    (hbad : BadNum l k 0 9223372036854775807 e0) :
    Calls Tryd.prog 20 #[.pointer (some ⟨g, 0, none⟩)] w fun e w' => e = .returned (.int .i64 0) ∧ Rdr w' g (.slice a n cap) k e0 ∧ Below g w w' := by
  have HB := hide hbad
  have H256 := hide h256
  clear hbad h256
  go_enter Tryd.func20, Tryd.ntmps20
  go_wp2_with fail
  refine (Within_bad g a n cap l k 0 9223372036854775807 e0 _ hv hr hg hl hkn (unhide H256) (unhide HB)).mono ?_
  rintro e w0 ⟨rfl, h1, h2⟩
  go_wp2
  go_ret
  exact ⟨rfl, h1, h2⟩

set_option maxHeartbeats 1000000 in
theorem Left_any (g : Nat) (a : Option Addr) (n cap k : Nat) (e0 : Int) (w : World) (hr : Rdr w g (.slice a n cap) k e0) (hk : k ≤ n) (hl : n ≤ 1000000000) :
    Calls Tryd.prog 28 #[.pointer (some ⟨g, 0, none⟩)] w fun e w' => e = .returned (.int .i64 ((n : Int) - (k : Int))) ∧ ∃ d, w' = w.drewN d := by
  go_enter Tryd.func28, Tryd.ntmps28
  go_wp2_with fail
  refine (made_any g _ k e0 _ hr).mono ?_
  rintro e w0 ⟨rfl, rfl⟩
  go_wp2_with fail
  refine (left_any g 0 a n cap k _ hr.1 hk (by unfold maxLen; omega)).mono ?_
  rintro e w' ⟨rfl, d, rfl⟩
  go_wp2
  go_ret
  exact ⟨rfl, d, rfl⟩

set_option maxHeartbeats 1000000 in
theorem Bytes_any (g : Nat) (a : Option Addr) (n cap : Nat) (l : List Nat) (k : Nat) (most : Int) (w : World) (hv : Byt w (.slice a n cap) l) (hr : Rdr w g (.slice a n cap) k 0) (hg : Low (.slice a n cap) g) (hl : n ≤ 1000000000) (h256 : ∀ y ∈ l, y < 256)
    (m : Nat) (hm : numOf ((l.drop k).take 8) = m) (hk : k + 8 + m ≤ n) (hmost : (m : Int) ≤ max most 0) :
    Calls Tryd.prog 24 #[.pointer (some ⟨g, 0, none⟩), .int .i64 most] w fun e w' => ∃ v', e = .returned v' ∧ Byt w' v' ((l.drop (k + 8)).take m) ∧ Rdr w' g (.slice a n cap) (k + 8 + m) 0 ∧ Below g w w' := by
  have HM := hide hm
  have H256 := hide h256
  have hlen : ((l.drop (k + 8)).take m).length ≤ 1000000000 := by rw [List.length_take]; omega
  have HLN := hide hlen
  clear hm h256 hlen
  go_enter Tryd.func24, Tryd.ntmps24
  go_wp2_with fail
  refine (err_any g _ k 0 _ hr).mono ?_
  rintro e w0 ⟨rfl, rfl⟩
  go_wp2_with fail
  refine (bytes_any g 0 a n cap l k most _ hv hr.1 hg hl (unhide H256) m (unhide HM) hk hmost).mono ?_
  rintro e w1 ⟨v1, rfl, hd1, hp1, hm1, hlow1⟩
  have hr1 := hr.moved hp1 hm1
  have hc := hr1.2
  have hd2 : Byt (w1.setCell ⟨g, 3, none⟩ (.int .i64 0)) v1 ((l.drop (k + 8)).take m) := hd1.low ((Below.refl g w1).setCell (Nat.le_refl g) _) (hlow1 g hg)
  have hr2 := hr1.err 0
  have hb2 : Below g w (w1.setCell ⟨g, 3, none⟩ (.int .i64 0)) := hm1.1.setCell (Nat.le_refl g) _
  go_wp2_with fail
  refine (clone_any v1 _ _ hd2 (unhide HLN)).mono ?_
  rintro e w3 ⟨v3, rfl, ho3, hb3⟩
  have hr3 := hr2.below (hb3.mono hr2.1.2)
  have hb4 := hb2.trans (hb3.mono (Nat.le_of_lt hr2.1.2))
  go_wp2
  go_ret
  exact ⟨_, rfl, Byt.of_own ho3, hr3, hb4⟩

set_option maxHeartbeats 1000000 in
theorem Bytes_bad (g : Nat) (a : Option Addr) (n cap : Nat) (l : List Nat) (k : Nat) (most e0 : Int) (w : World) (hv : Byt w (.slice a n cap) l) (hr : Rdr w g (.slice a n cap) k 0) (hg : Low (.slice a n cap) g) (hl : n ≤ 1000000000) (hkn : k ≤ n) (h256 : ∀ y ∈ l, y < 256)
    (hbad : BadBytes l k most e0) :
    Calls Tryd.prog 24 #[.pointer (some ⟨g, 0, none⟩), .int .i64 most] w fun e w' => ∃ v', e = .returned v' ∧ Byt w' v' [] ∧ Rdr w' g (.slice a n cap) k e0 ∧ Below g w w' := by
  have HB := hide hbad
  have H256 := hide h256
  clear hbad h256
  go_enter Tryd.func24, Tryd.ntmps24
  go_wp2_with fail
  refine (err_any g _ k 0 _ hr).mono ?_
  rintro e w0 ⟨rfl, rfl⟩
  go_wp2_with fail
  refine (bytes_bad g 0 a n cap l k most e0 _ hv hr.1 hg hl hkn (unhide H256) (unhide HB)).mono ?_
  rintro e w1 ⟨rfl, hb1⟩
  have hr1 := hr.below (hb1.mono hr.1.2)
  have hc := hr1.2
  have hz : g ≤ w.heap.size := Nat.le_of_lt hr.1.2
  have hr2 := hr1.err e0
  have hb2 : Below g w (w1.setCell ⟨g, 3, none⟩ (.int .i64 e0)) := (hb1.mono hz).setCell (Nat.le_refl g) _
  have hq := fun W => Go.run_eql_slice_nil (P := Tryd.prog) W 22 5 none 0 0 Tryd.underlying22
  go_wp2_with fail
  refine (clone_any (.slice none 0 0) [] _ (nil_byt _) (by decide)).mono ?_
  rintro e w3 ⟨v3, rfl, ho3, hb3⟩
  have hr3 := hr2.below (hb3.mono hr2.1.2)
  have hb4 := hb2.trans (hb3.mono (Nat.le_of_lt hr2.1.2))
  go_wp2
  go_ret
  exact ⟨_, rfl, Byt.of_own ho3, hr3, hb4⟩

set_option maxHeartbeats 1000000 in
theorem prefix_any (a : Addr) (n cap : Nat) (p : Value) (l m : List Nat) (w : World) (hv : Byt w (.slice (some a) n cap) l) (hp : Byt w p m) (hl : ∀ y ∈ l, y < 256) (hm : ∀ y ∈ m, y < 256) (hle : m.length ≤ n) (hpre : l.take m.length = m) :
    Calls Tryd.prog 41 #[.slice (some a) n cap, p] w fun e w' => e = .returned (.bool true) ∧ ∃ d, w' = w.drewN d := by
  obtain ⟨ap, capp, rfl⟩ := byt_shape hp
  obtain ⟨k, hk⟩ : ∃ k, m.length = k := ⟨_, rfl⟩
  have Y : Byt w (.slice (some a) k cap) m := by
    rcases hv with ⟨h, _⟩ | ⟨a', cap', h, h1, h2, h3⟩
    · cases h
    · injection h with e1 e2 e3
      injection e1 with e1
      subst e1 e3
      have q := slice_byt (k := 0) (m := k) h3 rfl (by omega) (by omega) h2
      rw [List.drop_zero, ← hk, hpre, hk] at q
      have e0 : a.add 0 = a := by obtain ⟨b, off, s⟩ := a; cases s <;> simp [Addr.add]
      rw [e0] at q
      simpa using q
  have hcap : k ≤ cap := by
    rcases hv with ⟨h, _⟩ | ⟨a', cap', h, h1, h2, h3⟩
    · cases h
    · injection h with e1 e2 e3
      omega
  rw [hk] at hle hp ⊢
  have hp' := hp
  have Y' := Y
  clear hv hl hpre hp Y hk
  go_enter Tryd.func41, Tryd.ntmps41
  go_wp2_with fail
  refine (equal_any _ _ m m _ Y' hp' hm hm).mono ?_
  rintro e w1 ⟨rfl, rfl⟩
  have t : ((strOf m).toList == (strOf m).toList) = true := by simp
  rw [t]
  go_wp2
  go_ret
  exact ⟨rfl, 0, rfl⟩
end Go.Proofs.YtbahnkomdndmkacDoor
