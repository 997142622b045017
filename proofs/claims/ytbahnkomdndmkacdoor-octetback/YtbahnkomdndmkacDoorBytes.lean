/- Bytes in memory, and how numbers and bytes are put. -/
import Derived.Test.YtbahnkomdndmkacDoorRows
import Derived.WalkKit
import Derived.ProofKit
import Derived.OpenShut
import Derived.Handy
import Derived.Lib.SmallJoins
import Derived.Lib.LazyBuf
namespace Go.Proofs.YtbahnkomdndmkacDoor
set_option linter.unusedVariables false
set_option linter.unusedSimpArgs false
open Go.ChangeShapes Go.WideShapes Go.ChangeAt Go.RowKit

theorem hide {p : Prop} (h : p) : Hid p := h
theorem unhide {p : Prop} (h : Hid p) : p := h
theorem cell_keep {B : Nat} {W w1 : World} {a : Addr} {v : Value} (hb : Below B W w1) (ha : a.block < B) (h : W.cell? a = some v) : w1.cell? a = some v := by rw [hb.cell ha]; exact h
theorem add_plain (b off : Nat) (k : Nat) : (⟨b, off, none⟩ : Addr).add k = ⟨b, off + k, none⟩ := by simp [Addr.add]
theorem lt_of_cell {w : World} {a : Addr} {v : Value} (h : w.cell? a = some v) : a.block < w.heap.size := by
  by_cases hlt : a.block < w.heap.size
  · exact hlt
  · exfalso
    obtain ⟨b, o, s⟩ := a
    simp [World.cell?, Array.getElem?_eq_none (Nat.le_of_not_lt hlt)] at h

def bv (l : List Nat) : List Value := l.map fun (x : Nat) => Value.int .u8 (Int.ofNat x)
theorem bv_len (l : List Nat) : (bv l).length = l.length := by simp [bv]
theorem bv_append (l m : List Nat) : bv (l ++ m) = bv l ++ bv m := by simp [bv]
theorem bv_one (l : List Nat) : ∀ u ∈ bv l, u.oneCell' = true := by
  intro u hu
  simp only [bv, List.mem_map] at hu
  obtain ⟨x, _, rfl⟩ := hu
  rfl
theorem bv_get {l : List Nat} {j : Nat} {u : Value} (h : (bv l)[j]? = some u) : ∃ y, l[j]? = some y ∧ u = .int .u8 (y : Int) := by
  rw [bv, List.getElem?_map] at h
  obtain ⟨y, hy, rfl⟩ := Option.map_eq_some_iff.1 h
  exact ⟨y, hy, rfl⟩

/-- a slice whose elements are these bytes -/
def Byt (w : World) (v : Value) (l : List Nat) : Prop :=
  (v = .slice none 0 0 ∧ l = []) ∨ ∃ a cap, v = .slice (some a) l.length cap ∧ l.length ≤ cap ∧ cap ≤ maxLen ∧ ∀ (i y : Nat), l[i]? = some y → w.cell? (a.add i) = some (.int .u8 (y : Int))
theorem Byt.call {w w1 : World} {v : Value} {l : List Nat} (h : Byt w v l) (hb : Below w.heap.size w w1) : Byt w1 v l := by
  rcases h with h | ⟨a, cap, hv, h1, h2, h3⟩
  · exact .inl h
  · refine .inr ⟨a, cap, hv, h1, h2, fun i y hy => ?_⟩
    have := h3 i y hy
    exact cell_keep hb (lt_of_cell this) this
theorem Byt.of_own {w : World} {base : Nat} {v : Value} {l : List Nat} (h : w.ownsRow base 5 1 v l.length (bv l)) : Byt w v l := by
  have h0 := h
  obtain ⟨_, ⟨rfl, hz⟩ | ⟨g, cap, cur, rfl, hg, hh, h1, h2, h3, h4⟩⟩ := h
  · exact .inl ⟨rfl, List.length_eq_zero_iff.1 hz⟩
  · refine .inr ⟨⟨g, 0, none⟩, cap, rfl, h1, h2, fun i y hy => ?_⟩
    exact h0.cells rfl i (.int .u8 (y : Int)) (by rw [bv, List.getElem?_map, hy]; rfl)
theorem Byt.news {w : World} {a : Addr} {l : List Nat} (h : ∀ (i y : Nat), l[i]? = some y → w.cell? (a.add i) = some (.int .u8 (y : Int))) : ∀ j u, (bv l)[j]? = some u → w.cell? (a.add j) = some u := by
  intro j u hj
  obtain ⟨y, hy, rfl⟩ := bv_get hj
  exact h j y hy

theorem own_cast {w : World} {b n m : Nat} {v : Value} {xs ys : List Value} (h : w.ownsRow b 5 1 v n xs) (hn : n = m) (hx : xs = ys) : w.ownsRow b 5 1 v m ys := by subst hn hx; exact h

theorem info5 : (Tryd.prog.info? 5).map (fun i => (i.zero, i.size, i.bytes)) = some (some (.int .u8 0), 1, 1) := by kernel_rfl

set_option maxHeartbeats 1000000 in
theorem roomy_any (v : Value) (l : List Nat) (more : Nat) (w : World) (hv : Byt w v l) (hl : l.length ≤ 1000000000) (hm : more ≤ 1000000000) :
    Calls Tryd.prog 43 #[v, .int .i64 (more : Int)] w fun e w' => ∃ v', e = .returned v' ∧ w'.ownsRow w.heap.size 5 1 v' l.length (bv l) ∧ Below w.heap.size w w' := by
  obtain ⟨i0, hi, hz0, hz1, hz2⟩ := info_parts info5
  rcases hv with ⟨rfl, rfl⟩ | ⟨a, cap, rfl, h1, h2, h3⟩
  · go_enter Tryd.func43, Tryd.ntmps43
    go_wp2_with (refine wpList_make_own _ rfl _ _ 22 rfl w.heap.size 5 i0 (.int .u8 0) 1 Tryd.underlying22 hi hz0 hz1 .i64 .i64 _ more rfl rfl ?c1 (by rw [hz2]; omega) (by unfold maxLen; omega) (Nat.le_refl _) ?_)
    case c1 => simp
    intro w1 hown hgrow
    go_wp2
    go_ret
    exact ⟨_, rfl, hown, (Below.refl _ _).grown hgrow (Nat.le_refl _) (fun k hk => by cases hk)⟩
  · have hnews := Byt.news h3
    generalize hn : l.length = n at *
    have HN := hide hnews
    have HL := hide hn
    clear hnews h3 hn
    go_enter Tryd.func43, Tryd.ntmps43
    go_wp2_with (refine wpList_make_own _ rfl _ _ 22 rfl w.heap.size 5 i0 (.int .u8 0) 1 Tryd.underlying22 hi hz0 hz1 .i64 .i64 _ (n + more) rfl rfl ?c1 (by rw [hz2]; omega) (by unfold maxLen; omega) (Nat.le_refl _) ?_)
    case c1 => simp
    intro w1 hown hgrow
    have hb1 : Below w.heap.size w w1 := (Below.refl _ _).grown hgrow (Nat.le_refl _) (fun k hk => by cases hk)
    go_wp2_with (at_builtin; refine wpList_append_own _ rfl _ _ 22 rfl w.heap.size 5 i0 (.int .u8 0) 1 1 Tryd.underlying22 hi hz0 hz1 hz2 rfl (by decide) _ _ _ rfl hown a n cap (bv l) rfl ?c0 ?c1 ?c2 ?c3 ?c4 ?c5 ?_)
    case c0 => rw [bv_len, unhide HL]; omega
    case c1 =>
      intro j u hj
      have := unhide HN j u hj
      exact cell_keep hb1 (lt_of_cell this) this
    case c2 => exact bv_one l
    case c3 => unfold maxLen; omega
    case c4 => omega
    case c5 => exact hb1.size
    intro v' w2 hown' hgrow' _
    go_wp2
    go_ret
    refine ⟨_, rfl, ?_, ?_⟩
    · simpa using hown'
    · exact hb1.grown hgrow' hb1.size (fun k hk => by simp [Value.ownBlock] at hk; omega)

/-- a number's eight bytes, the highest first -/
def byteK (u k : Nat) : Nat := u / 2 ^ (56 - 8 * k) % 256
def num8 (u : Nat) : List Nat := (List.range 8).map (byteK u)
theorem num8_take (u k : Nat) (hk : k < 8) : (num8 u).take (k + 1) = (num8 u).take k ++ [byteK u k] := by
  rw [List.take_succ_eq_append_getElem (by simp [num8]; exact hk)]
  congr 1
  simp [num8]
theorem num8_len (u : Nat) : (num8 u).length = 8 := by simp [num8]

set_option maxHeartbeats 1000000 in
theorem appnum_nat (base : Nat) (v : Value) (l : List Nat) (u : Nat) (w : World) (ho : w.ownsRow base 5 1 v l.length (bv l)) (hbase : base ≤ w.heap.size) (hl : l.length ≤ 1000000000) (hu : u ≤ 9223372036854775807) :
    Calls Tryd.prog 42 #[v, .int .i64 (u : Int)] w fun e w' => ∃ v', e = .returned v' ∧ w'.ownsRow base 5 1 v' (l ++ num8 u).length (bv (l ++ num8 u)) ∧ Below base w w' := by
  obtain ⟨i0, hi, hz0, hz1, hz2⟩ := info_parts info5
  have hn0 : ¬ (u : Int) < 0 := by omega
  go_enter Tryd.func42, Tryd.ntmps42
  go_wp2_with fail
  go_loopw [0, 6] (fun v s wr => ∃ k : Nat, k ≤ 8 ∧ s = .int .i64 (56 - 8 * (k : Int)) ∧ wr.ownsRow base 5 1 v (l ++ (num8 u).take k).length (bv (l ++ (num8 u).take k)) ∧ Below base w wr) (fun _ s _ => (intOf s + 8).toNat)
  case atStart => exact ⟨0, by omega, rfl, by simpa using ho, Below.refl _ _⟩
  case round =>
    obtain ⟨k, hk, rfl, hown, bel⟩ := hrel
    have hlen : (l ++ (num8 u).take k).length ≤ 1000000010 := by
      rw [List.length_append, List.length_take, num8_len]
      omega
    by_cases hlt : k < 8
    · have hge : (0 : Int) ≤ 56 - 8 * (k : Int) := by omega
      go_wp2_with (at_builtin; refine wpList_append_own _ rfl _ _ 22 rfl base 5 i0 (.int .u8 0) 1 1 Tryd.underlying22 hi hz0 hz1 hz2 rfl (by decide) _ _ _ rfl (hown.alloc _) ⟨wr.heap.size, 0, none⟩ 1 1 [.int .u8 ((u : Int) / 2 ^ (56 - 8 * k) % 256)] rfl rfl ?c1 ?c2 ?c3 ?c4 ?c5 ?_)
      case c1 =>
        intro j x hj
        match j, hj with
        | 0, hj => simp at hj; subst hj; simp [Addr.add]
      case c2 => intro x hx; simp at hx; subst hx; rfl
      case c3 => unfold maxLen; omega
      case c4 => omega
      case c5 => have := bel.size; simp; omega
      intro v' w1 hown' hgrow _
      have hb1 : Below base w w1 := (bel.alloc (by have := bel.size; omega) _).grown hgrow (by have := bel.size; simp; omega) (fun g hg => (hown.lt g hg).1)
      go_wp2
      go_roundw
      case rel =>
        refine ⟨k + 1, by omega, by go_num, ?_, hb1⟩
        have e1 : l ++ (num8 u).take (k + 1) = (l ++ (num8 u).take k) ++ [byteK u k] := by rw [num8_take u k hlt, List.append_assoc]
        have e2 : bv [byteK u k] = [.int .u8 ((u : Int) / 2 ^ (56 - 8 * k) % 256)] := by simp [bv, byteK]
        rw [e1, bv_append, List.length_append, e2]
        simp only [List.length_append, List.length_take, List.length_cons, List.length_nil] at hown' ⊢
        exact hown'
      case measure => simp [intOf]; omega
    · have hk8 : k = 8 := by omega
      subst hk8
      have hlt0 : ¬ (0 : Int) ≤ 56 - 8 * ((8 : Nat) : Int) := by omega
      have e1 : (num8 u).take 8 = num8 u := List.take_of_length_le (by rw [num8_len]; omega)
      rw [e1] at hown
      clear e1
      go_wp2
      go_ret
      rw [List.length_append] at hown
      exact ⟨_, rfl, hown, bel⟩

theorem appnum_any (base : Nat) (v : Value) (l : List Nat) (n : Int) (w : World) (ho : w.ownsRow base 5 1 v l.length (bv l)) (hbase : base ≤ w.heap.size) (hl : l.length ≤ 1000000000) (hn : n ≤ 9223372036854775807) (h0 : 0 ≤ n) :
    Calls Tryd.prog 42 #[v, .int .i64 n] w fun e w' => ∃ v', e = .returned v' ∧ w'.ownsRow base 5 1 v' (l ++ num8 n.toNat).length (bv (l ++ num8 n.toNat)) ∧ Below base w w' := by
  obtain ⟨u, rfl⟩ := Int.eq_ofNat_of_zero_le h0
  rw [Int.toNat_natCast]
  exact appnum_nat base v l u w ho hbase hl (by omega)

/-- how many bytes, and these, behind others -/
def putB (l d : List Nat) : List Nat := l ++ num8 d.length ++ d

set_option maxHeartbeats 1000000 in
theorem putbytes_any (v x : Value) (l d : List Nat) (w : World) (hv : Byt w v l) (hx : Byt w x d) (hl : l.length ≤ 100000000) (hd : d.length ≤ 100000000) :
    Calls Tryd.prog 14 #[v, x] w fun e w' => ∃ v', e = .returned v' ∧ w'.ownsRow w.heap.size 5 1 v' (putB l d).length (bv (putB l d)) ∧ Below w.heap.size w w' := by
  obtain ⟨i0, hi, hz0, hz1, hz2⟩ := info_parts info5
  have hlen8 := num8_len d.length
  have HL8 := hide hlen8
  clear hlen8
  rcases hx with ⟨rfl, rfl⟩ | ⟨a, cap, rfl, h1, h2, h3⟩
  · go_enter Tryd.func14, Tryd.ntmps14
    go_wp2_with fail
    refine (roomy_any v l 8 _ hv (by omega) (by omega)).mono ?_
    rintro e w1 ⟨v1, rfl, ho1, hb1⟩
    go_wp2_with fail
    refine (appnum_any w.heap.size v1 l 0 _ ho1 hb1.size (by omega) (by omega) (by omega)).mono ?_
    rintro e w2 ⟨v2, rfl, ho2, hb2⟩
    simp only [Int.toNat_zero, List.length_append] at ho2
    rcases Joins.ownsRow_forms ho2 with ⟨_, hz⟩ | ⟨g, cp, rfl⟩
    · rw [num8_len] at hz; omega
    have hcp : l.length + (num8 0).length ≤ cp := by
      obtain ⟨_, ⟨h, _⟩ | ⟨g', cap', cur, hv', _, _, h1, _⟩⟩ := ho2
      · cases h
      · cases hv'; exact h1
    go_wp2
    go_ret
    exact ⟨_, rfl, own_cast ho2 (by simp [putB]) (by simp [putB]), hb1.trans hb2⟩
  · have hnews := Byt.news h3
    have hbd : ∀ j u, (bv d)[j]? = some u → (a.add j).block < w.heap.size := fun j u hj => lt_of_cell (hnews j u hj)
    obtain ⟨n, hn⟩ : ∃ n, d.length = n := ⟨_, rfl⟩
    rw [hn] at h1 hd
    rw [hn]
    have HN := hide hnews
    have HL := hide hn
    have HB := hide hbd
    clear hnews h3 hn hbd
    go_enter Tryd.func14, Tryd.ntmps14
    go_wp2_with fail
    refine (roomy_any v l (8 + n) _ hv (by omega) (by omega)).mono ?_
    rintro e w1 ⟨v1, rfl, ho1, hb1⟩
    go_wp2_with fail
    refine (appnum_any w.heap.size v1 l (n : Int) _ ho1 hb1.size (by omega) (by omega) (by omega)).mono ?_
    rintro e w2 ⟨v2, rfl, ho2, hb2⟩
    rw [Int.toNat_natCast] at ho2
    have hb12 := hb1.trans hb2
    go_wp2_with (at_builtin; refine wpList_append_own _ rfl _ _ 22 rfl w.heap.size 5 i0 (.int .u8 0) 1 1 Tryd.underlying22 hi hz0 hz1 hz2 rfl (by decide) _ _ _ rfl ho2 a n cap (bv d) rfl ?c0 ?c1 ?c2 ?c3 ?c4 ?c5 ?_)
    case c0 => rw [bv_len, unhide HL]; omega
    case c1 =>
      intro j u hj
      exact cell_keep hb12 (unhide HB j u hj) (unhide HN j u hj)
    case c2 => exact bv_one d
    case c3 => rw [List.length_append, num8_len]; unfold maxLen; omega
    case c4 => rw [List.length_append, num8_len]; omega
    case c5 => exact hb12.size
    intro v' w3 hown' hgrow' _
    go_wp2
    go_ret
    refine ⟨_, rfl, ?_, hb12.grown hgrow' hb12.size (fun k hk => (ho2.lt k hk).1)⟩
    exact own_cast hown' (by rw [putB, List.length_append, List.length_append, unhide HL]) (by rw [putB, bv_append (l ++ _), unhide HL])
end Go.Proofs.YtbahnkomdndmkacDoor
