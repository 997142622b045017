/- Readers over bytes: places, numbers, bytes, texts, words. -/
import Derived.Test.YtbnfilhilgjnfaaDoorRows
import Derived.WalkKit
import Derived.ProofKit
import Derived.OpenShut
import Derived.Handy
import Derived.Lib.SmallJoins
import Derived.Lib.LazyBuf
import Derived.Lib.AppendStr
import Derived.Deep.QuietTactic
import Derived.BigQuiet
import Derived.Deep.RegionWith
import Derived.Shelf.Utf8.RuneCount
import Derived.Shelf.Lay
import Derived.Ground.NamesProg
import Derived.Lib.Agree
import Derived.Laws.IdiomStrings
import Derived.Shelf.Unicode.ValidAny
namespace Go.Proofs.YtbnfilhilgjnfaaDoor.Oc
set_option linter.unusedVariables false
set_option maxRecDepth 100000
set_option linter.unusedSimpArgs false
open Go.ChangeShapes Go.WideShapes Go.ChangeAt Go.RowKit

theorem hide {p : Prop} (h : p) : Hid p := h
theorem unhide {p : Prop} (h : Hid p) : p := h
theorem cell_keep {B : Nat} {W w1 : World} {a : Addr} {v : Value} (hb : Below B W w1) (ha : a.block < B) (h : W.cell? a = some v) : w1.cell? a = some v := by rw [hb.cell ha]; exact h
theorem add_plain (b off : Nat) (k : Nat) : (⟨b, off, none⟩ : Addr).add k = ⟨b, off + k, none⟩ := by simp [Addr.add]
theorem lt_of_cell {w : World} {a : Addr} {v : Value} (h : w.cell? a = some v) : a.block < w.heap.size := by
  by_cases hlt : a.block < w.heap.size
  · exact hlt
  · exfalso
    obtain ⟨b, o, s⟩ := a
    simp [World.cell?, Array.getElem?_eq_none (Nat.le_of_not_lt hlt)] at h

def bv (l : List Nat) : List Value := l.map fun (x : Nat) => Value.int .u8 (Int.ofNat x)
theorem bv_len (l : List Nat) : (bv l).length = l.length := by simp [bv]
theorem bv_append (l m : List Nat) : bv (l ++ m) = bv l ++ bv m := by simp [bv]
theorem bv_one (l : List Nat) : ∀ u ∈ bv l, u.oneCell' = true := by
  intro u hu
  simp only [bv, List.mem_map] at hu
  obtain ⟨x, _, rfl⟩ := hu
  rfl
theorem bv_get {l : List Nat} {j : Nat} {u : Value} (h : (bv l)[j]? = some u) : ∃ y, l[j]? = some y ∧ u = .int .u8 (y : Int) := by
  rw [bv, List.getElem?_map] at h
  obtain ⟨y, hy, rfl⟩ := Option.map_eq_some_iff.1 h
  exact ⟨y, hy, rfl⟩

/-- a slice whose elements are these bytes -/
def Byt (w : World) (v : Value) (l : List Nat) : Prop :=
  (v = .slice none 0 0 ∧ l = []) ∨ ∃ a cap, v = .slice (some a) l.length cap ∧ l.length ≤ cap ∧ cap ≤ maxLen ∧ ∀ (i y : Nat), l[i]? = some y → w.cell? (a.add i) = some (.int .u8 (y : Int))
theorem Byt.call {w w1 : World} {v : Value} {l : List Nat} (h : Byt w v l) (hb : Below w.heap.size w w1) : Byt w1 v l := by
  rcases h with h | ⟨a, cap, hv, h1, h2, h3⟩
  · exact .inl h
  · refine .inr ⟨a, cap, hv, h1, h2, fun i y hy => ?_⟩
    have := h3 i y hy
    exact cell_keep hb (lt_of_cell this) this
theorem Byt.of_own {w : World} {base : Nat} {v : Value} {l : List Nat} (h : w.ownsRow base 5 1 v l.length (bv l)) : Byt w v l := by
  have h0 := h
  obtain ⟨_, ⟨rfl, hz⟩ | ⟨g, cap, cur, rfl, hg, hh, h1, h2, h3, h4⟩⟩ := h
  · exact .inl ⟨rfl, List.length_eq_zero_iff.1 hz⟩
  · refine .inr ⟨⟨g, 0, none⟩, cap, rfl, h1, h2, fun i y hy => ?_⟩
    exact h0.cells rfl i (.int .u8 (y : Int)) (by rw [bv, List.getElem?_map, hy]; rfl)
theorem Byt.news {w : World} {a : Addr} {l : List Nat} (h : ∀ (i y : Nat), l[i]? = some y → w.cell? (a.add i) = some (.int .u8 (y : Int))) : ∀ j u, (bv l)[j]? = some u → w.cell? (a.add j) = some u := by
  intro j u hj
  obtain ⟨y, hy, rfl⟩ := bv_get hj
  exact h j y hy

theorem own_cast {w : World} {b n m : Nat} {v : Value} {xs ys : List Value} (h : w.ownsRow b 5 1 v n xs) (hn : n = m) (hx : xs = ys) : w.ownsRow b 5 1 v m ys := by subst hn hx; exact h

theorem info5 : (Tryd.prog.info? 5).map (fun i => (i.zero, i.size, i.bytes)) = some (some (.int .u8 0), 1, 1) := by kernel_rfl

set_option maxHeartbeats 1000000 in
theorem roomy_any (v : Value) (l : List Nat) (more : Nat) (w : World) (hv : Byt w v l) (hl : l.length ≤ 1000000000) (hm : more ≤ 1000000000) :
    Calls Tryd.prog 52 #[v, .int .i64 (more : Int)] w fun e w' => ∃ v', e = .returned v' ∧ w'.ownsRow w.heap.size 5 1 v' l.length (bv l) ∧ Below w.heap.size w w' := by
  obtain ⟨i0, hi, hz0, hz1, hz2⟩ := info_parts info5
  rcases hv with ⟨rfl, rfl⟩ | ⟨a, cap, rfl, h1, h2, h3⟩
  · go_enter Tryd.func52, Tryd.ntmps52
    go_wp2_with (refine wpList_make_own _ rfl _ _ 30 rfl w.heap.size 5 i0 (.int .u8 0) 1 Tryd.underlying30 hi hz0 hz1 .i64 .i64 _ more rfl rfl ?c1 (by rw [hz2]; omega) (by unfold maxLen; omega) (Nat.le_refl _) ?_)
    case c1 => simp
    intro w1 hown hgrow
    go_wp2
    go_ret
    exact ⟨_, rfl, hown, (Below.refl _ _).grown hgrow (Nat.le_refl _) (fun k hk => by cases hk)⟩
  · have hnews := Byt.news h3
    generalize hn : l.length = n at *
    have HN := hide hnews
    have HL := hide hn
    clear hnews h3 hn
    go_enter Tryd.func52, Tryd.ntmps52
    go_wp2_with (refine wpList_make_own _ rfl _ _ 30 rfl w.heap.size 5 i0 (.int .u8 0) 1 Tryd.underlying30 hi hz0 hz1 .i64 .i64 _ (n + more) rfl rfl ?c1 (by rw [hz2]; omega) (by unfold maxLen; omega) (Nat.le_refl _) ?_)
    case c1 => simp
    intro w1 hown hgrow
    have hb1 : Below w.heap.size w w1 := (Below.refl _ _).grown hgrow (Nat.le_refl _) (fun k hk => by cases hk)
    go_wp2_with (at_builtin; refine wpList_append_own _ rfl _ _ 30 rfl w.heap.size 5 i0 (.int .u8 0) 1 1 Tryd.underlying30 hi hz0 hz1 hz2 rfl (by decide) _ _ _ rfl hown a n cap (bv l) rfl ?c0 ?c1 ?c2 ?c3 ?c4 ?c5 ?_)
    case c0 => rw [bv_len, unhide HL]; omega
    case c1 =>
      intro j u hj
      have := unhide HN j u hj
      exact cell_keep hb1 (lt_of_cell this) this
    case c2 => exact bv_one l
    case c3 => unfold maxLen; omega
    case c4 => omega
    case c5 => exact hb1.size
    intro v' w2 hown' hgrow' _
    go_wp2
    go_ret
    refine ⟨_, rfl, ?_, ?_⟩
    · simpa using hown'
    · exact hb1.grown hgrow' hb1.size (fun k hk => by simp [Value.ownBlock] at hk; omega)

/-- a number's eight bytes, the highest first -/
def byteK (u k : Nat) : Nat := u / 2 ^ (56 - 8 * k) % 256
def num8 (u : Nat) : List Nat := (List.range 8).map (byteK u)
theorem num8_take (u k : Nat) (hk : k < 8) : (num8 u).take (k + 1) = (num8 u).take k ++ [byteK u k] := by
  rw [List.take_succ_eq_append_getElem (by simp [num8]; exact hk)]
  congr 1
  simp [num8]
theorem num8_len (u : Nat) : (num8 u).length = 8 := by simp [num8]

set_option maxHeartbeats 1000000 in
theorem appnum_nat (base : Nat) (v : Value) (l : List Nat) (u : Nat) (w : World) (ho : w.ownsRow base 5 1 v l.length (bv l)) (hbase : base ≤ w.heap.size) (hl : l.length ≤ 1000000000) (hu : u ≤ 9223372036854775807) :
    Calls Tryd.prog 53 #[v, .int .i64 (u : Int)] w fun e w' => ∃ v', e = .returned v' ∧ w'.ownsRow base 5 1 v' (l ++ num8 u).length (bv (l ++ num8 u)) ∧ Below base w w' := by
  obtain ⟨i0, hi, hz0, hz1, hz2⟩ := info_parts info5
  have hn0 : ¬ (u : Int) < 0 := by omega
  go_enter Tryd.func53, Tryd.ntmps53
  go_wp2_with fail
  go_loopw [0, 6] (fun v s wr => ∃ k : Nat, k ≤ 8 ∧ s = .int .i64 (56 - 8 * (k : Int)) ∧ wr.ownsRow base 5 1 v (l ++ (num8 u).take k).length (bv (l ++ (num8 u).take k)) ∧ Below base w wr) (fun _ s _ => (intOf s + 8).toNat)
  case atStart => exact ⟨0, by omega, rfl, by simpa using ho, Below.refl _ _⟩
  case round =>
    obtain ⟨k, hk, rfl, hown, bel⟩ := hrel
    have hlen : (l ++ (num8 u).take k).length ≤ 1000000010 := by
      rw [List.length_append, List.length_take, num8_len]
      omega
    by_cases hlt : k < 8
    · have hge : (0 : Int) ≤ 56 - 8 * (k : Int) := by omega
      go_wp2_with (at_builtin; refine wpList_append_own _ rfl _ _ 30 rfl base 5 i0 (.int .u8 0) 1 1 Tryd.underlying30 hi hz0 hz1 hz2 rfl (by decide) _ _ _ rfl (hown.alloc _) ⟨wr.heap.size, 0, none⟩ 1 1 [.int .u8 ((u : Int) / 2 ^ (56 - 8 * k) % 256)] rfl rfl ?c1 ?c2 ?c3 ?c4 ?c5 ?_)
      case c1 =>
        intro j x hj
        match j, hj with
        | 0, hj => simp at hj; subst hj; simp [Addr.add]
      case c2 => intro x hx; simp at hx; subst hx; rfl
      case c3 => unfold maxLen; omega
      case c4 => omega
      case c5 => have := bel.size; simp; omega
      intro v' w1 hown' hgrow _
      have hb1 : Below base w w1 := (bel.alloc (by have := bel.size; omega) _).grown hgrow (by have := bel.size; simp; omega) (fun g hg => (hown.lt g hg).1)
      go_wp2
      go_roundw
      case rel =>
        refine ⟨k + 1, by omega, by go_num, ?_, hb1⟩
        have e1 : l ++ (num8 u).take (k + 1) = (l ++ (num8 u).take k) ++ [byteK u k] := by rw [num8_take u k hlt, List.append_assoc]
        have e2 : bv [byteK u k] = [.int .u8 ((u : Int) / 2 ^ (56 - 8 * k) % 256)] := by simp [bv, byteK]
        rw [e1, bv_append, List.length_append, e2]
        simp only [List.length_append, List.length_take, List.length_cons, List.length_nil] at hown' ⊢
        exact hown'
      case measure => simp [intOf]; omega
    · have hk8 : k = 8 := by omega
      subst hk8
      have hlt0 : ¬ (0 : Int) ≤ 56 - 8 * ((8 : Nat) : Int) := by omega
      have e1 : (num8 u).take 8 = num8 u := List.take_of_length_le (by rw [num8_len]; omega)
      rw [e1] at hown
      clear e1
      go_wp2
      go_ret
      rw [List.length_append] at hown
      exact ⟨_, rfl, hown, bel⟩

theorem appnum_any (base : Nat) (v : Value) (l : List Nat) (n : Int) (w : World) (ho : w.ownsRow base 5 1 v l.length (bv l)) (hbase : base ≤ w.heap.size) (hl : l.length ≤ 1000000000) (hn : n ≤ 9223372036854775807) (h0 : 0 ≤ n) :
    Calls Tryd.prog 53 #[v, .int .i64 n] w fun e w' => ∃ v', e = .returned v' ∧ w'.ownsRow base 5 1 v' (l ++ num8 n.toNat).length (bv (l ++ num8 n.toNat)) ∧ Below base w w' := by
  obtain ⟨u, rfl⟩ := Int.eq_ofNat_of_zero_le h0
  rw [Int.toNat_natCast]
  exact appnum_nat base v l u w ho hbase hl (by omega)

/-- how many bytes, and these, behind others -/
def putB (l d : List Nat) : List Nat := l ++ num8 d.length ++ d

end Go.Proofs.YtbnfilhilgjnfaaDoor.Oc

namespace Go.Proofs.YtbnfilhilgjnfaaDoor.Oc
set_option linter.unusedVariables false
set_option maxRecDepth 100000
set_option linter.unusedSimpArgs false
open Go.ChangeShapes Go.WideShapes Go.ChangeAt Go.RowKit

theorem plain_of {w : World} {a : Addr} {l : List Nat} (h : ∀ (i y : Nat), l[i]? = some y → w.cell? (a.add i) = some (.int .u8 (y : Int))) (hl : 0 < l.length) : ∃ b off, a = ⟨b, off, none⟩ := by
  obtain ⟨b, off, spot⟩ := a
  have := h 0 _ (List.getElem?_eq_getElem hl)
  have hspot : spot = none := by simpa [Addr.add] using World.cell?_spot this
  subst hspot
  exact ⟨b, off, rfl⟩

def R32 (c : Int) : Prop := 0 ≤ c ∧ c < 4294967296
theorem xor_r32 {a b : Int} (ha : R32 a) (hb : R32 b) : R32 (bits .xor .u32 a b) := by
  rw [u32_xor a b ha.1 ha.2 hb.1 hb.2]
  have h : a.toNat ^^^ b.toNat < 2 ^ 32 := Nat.xor_lt_two_pow (by have := ha.2; omega) (by have := hb.2; omega)
  exact ⟨by omega, by omega⟩

def stepI (d : Int) : Int := if (bits .and .u32 d 2147483648 != 0) = true then bits .xor .u32 (d * 2 % 4294967296) 2168537515 else d * 2 % 4294967296
theorem step_r32 {d : Int} : R32 (stepI d) := by
  unfold stepI
  split
  · exact xor_r32 ⟨by omega, by omega⟩ ⟨by decide, by decide⟩
  · exact ⟨by omega, by omega⟩
def mixTo (c x : Int) : Nat → Int
  | 0 => bits .xor .u32 c (x * 16777216)
  | k + 1 => stepI (mixTo c x k)
theorem mix_r32 {c x : Int} (hc : R32 c) (hx : 0 ≤ x ∧ x < 256) : ∀ k, R32 (mixTo c x k)
  | 0 => xor_r32 hc ⟨by omega, by omega⟩
  | k + 1 => step_r32

def sumTo (l : List Nat) : Int := l.foldl (fun (c : Int) (x : Nat) => mixTo c (x : Int) 8) 4294967295
theorem sum_r32 (l : List Nat) (h : ∀ y ∈ l, y < 256) : R32 (sumTo l) := by
  have : ∀ (l : List Nat) (c : Int), R32 c → (∀ y ∈ l, y < 256) → R32 (l.foldl (fun (c : Int) (x : Nat) => mixTo c (x : Int) 8) c) := by
    intro l
    induction l with
    | nil => intro c hc _; exact hc
    | cons x l ih =>
      intro c hc hl
      have hx := hl x (List.mem_cons_self ..)
      exact ih _ (mix_r32 hc ⟨by omega, by omega⟩ 8) (fun y hy => hl y (List.mem_cons_of_mem _ hy))
  exact this l _ ⟨by decide, by decide⟩ h
theorem sum_take {l : List Nat} {k y : Nat} (h : l[k]? = some y) : sumTo (l.take (k + 1)) = mixTo (sumTo (l.take k)) y 8 := by
  have hk : k < l.length := by
    by_cases hk : k < l.length
    · exact hk
    · rw [List.getElem?_eq_none (by omega)] at h; cases h
  rw [List.take_succ_eq_append_getElem hk, sumTo, List.foldl_append]
  rw [List.getElem?_eq_getElem hk] at h
  obtain rfl := Option.some.inj h
  rfl

/-- a sum's four bytes, the highest first -/
def sum4 (s : Int) : List Nat := [(s / 16777216).toNat, (s / 65536 % 256).toNat, (s / 256 % 256).toNat, (s % 256).toNat]
/-- the block of bytes -/
def sealB (d : List Nat) : List Nat := putB [] d ++ sum4 (sumTo (putB [] d))
theorem num8_256 (u : Nat) : ∀ y ∈ num8 u, y < 256 := by
  intro y hy
  simp only [num8, List.mem_map] at hy
  obtain ⟨k, _, rfl⟩ := hy
  exact Nat.mod_lt _ (by decide)
theorem putB_256 {l d : List Nat} (hl : ∀ y ∈ l, y < 256) (hd : ∀ y ∈ d, y < 256) : ∀ y ∈ putB l d, y < 256 := by
  intro y hy
  simp only [putB, List.mem_append] at hy
  rcases hy with (hy | hy) | hy
  · exact hl y hy
  · exact num8_256 _ y hy
  · exact hd y hy
theorem putB_len (l d : List Nat) : (putB l d).length = l.length + 8 + d.length := by simp [putB, num8_len]; omega
theorem bv_sum4 {s : Int} (h : R32 s) : bv (sum4 s) = [.int .u8 (s / 16777216), .int .u8 (s / 65536 % 256), .int .u8 (s / 256 % 256), .int .u8 (s % 256)] := by
  have e : ∀ x : Int, 0 ≤ x → Int.ofNat x.toNat = x := fun x hx => by simp; omega
  have := h.1
  simp only [bv, sum4, List.map_cons, List.map_nil]
  rw [e _ (by omega), e _ (by omega), e _ (by omega), e _ (by omega)]

theorem strCells_bv (x : ByteArray) : Lib.strCells x = bv (x.data.toList.map (·.toNat)) := by
  simp [Lib.strCells, bv]

def txt (x : ByteArray) : List Nat := x.data.toList.map (·.toNat)
theorem txt_len (x : ByteArray) : (txt x).length = x.size := by simp [txt]

set_option maxHeartbeats 1000000 in
theorem puttext_any (v : Value) (l : List Nat) (x : ByteArray) (w : World) (hv : Byt w v l) (hl : l.length ≤ 100000000) (hx : x.size ≤ 100000000) :
    Calls Tryd.prog 33 #[v, .string x] w fun e w' => ∃ v', e = .returned v' ∧ w'.ownsRow w.heap.size 5 1 v' (putB l (txt x)).length (bv (putB l (txt x))) ∧ Below w.heap.size w w' := by
  obtain ⟨i0, hi, hz0, hz1, hz2⟩ := info_parts info5
  go_enter Tryd.func33, Tryd.ntmps33
  go_wp2_with fail
  refine (roomy_any v l (8 + x.size) _ hv (by omega) (by omega)).mono ?_
  rintro e w1 ⟨v1, rfl, ho1, hb1⟩
  go_wp2_with fail
  refine (appnum_any w.heap.size v1 l (x.size : Int) _ ho1 hb1.size (by omega) (by omega) (by omega)).mono ?_
  rintro e w2 ⟨v2, rfl, ho2, hb2⟩
  rw [Int.toNat_natCast] at ho2
  have hb12 := hb1.trans hb2
  go_wp2_with (at_builtin; refine Lib.wpList_append_own_string _ rfl _ _ 30 9 rfl w.heap.size 5 i0 Tryd.underlying30 Tryd.underlying9 hi hz0 hz1 hz2 _ _ _ rfl ho2 x rfl ?c1 ?c2 ?c3 ?_)
  case c1 => rw [List.length_append, num8_len]; unfold maxLen; omega
  case c2 => rw [List.length_append, num8_len]; omega
  case c3 => exact hb12.size
  intro v' w3 hown' hgrow' _
  go_wp2
  go_ret
  refine ⟨_, rfl, ?_, hb12.grown hgrow' hb12.size (fun k hk => (ho2.lt k hk).1)⟩
  exact own_cast hown' (by simp only [putB, List.length_append, txt_len]) (by rw [putB, bv_append (l ++ _), txt_len, strCells_bv]; rfl)

/-- numbers' bytes behind others -/
def putN (l : List Nat) (N : Nat → Int) : Nat → List Nat
  | 0 => l
  | k + 1 => putN l N k ++ num8 (N k).toNat
theorem putN_len (l : List Nat) (N : Nat → Int) (k : Nat) : (putN l N k).length = l.length + 8 * k := by
  induction k with
  | zero => simp [putN]
  | succ k ih => simp [putN, ih, num8_len]; omega

set_option maxHeartbeats 1000000 in
theorem put_any (v : Value) (l : List Nat) (b n cap : Nat) (N : Nat → Int) (w : World) (hv : Byt w v l) (hl : l.length ≤ 100000000) (hn : n ≤ 1000) (hb : b < w.heap.size)
    (hN : ∀ i, i < n → w.cell? ⟨b, i, none⟩ = some (.int .i64 (N i)) ∧ 0 ≤ N i ∧ N i ≤ 9223372036854775807) :
    Calls Tryd.prog 32 #[v, .slice (some ⟨b, 0, none⟩) n cap] w fun e w' => ∃ v', e = .returned v' ∧ w'.ownsRow w.heap.size 5 1 v' (putN l N n).length (bv (putN l N n)) ∧ Below w.heap.size w w' := by
  have HNN := hide hN
  clear hN
  go_enter Tryd.func32, Tryd.ntmps32
  go_wp2_with fail
  have hc8 : (8 * (n : Int)) = ((8 * n : Nat) : Int) := by omega
  rw [hc8]
  refine (roomy_any v l (8 * n) _ hv (by omega) (by omega)).mono ?_
  rintro e w1 ⟨v1, rfl, ho1, hb1⟩
  clear hc8
  go_wp2_with fail
  go_loopw [5, 15] (fun v i wr => ∃ k : Nat, k ≤ n ∧ i = .int .i64 k ∧ wr.ownsRow w.heap.size 5 1 v (putN l N k).length (bv (putN l N k)) ∧ Below w.heap.size w wr) (fun _ i _ => n - (intOf i).toNat)
  case atStart => exact ⟨0, by omega, rfl, ho1, hb1⟩
  case round =>
    obtain ⟨k, hk, rfl, hown, bel⟩ := hrel
    by_cases hlt : k < n
    · have hc := cell_keep bel hb (unhide HNN k hlt).1
      have hN0 := (unhide HNN k hlt).2
      have g1 : (0 : Int) ≤ (k : Int) := by omega
      have g2 : (k : Int) < (n : Int) := by omega
      have hlen := putN_len l N k
      have HLn := hide hlen
      clear hlen
      go_wp2_with fail
      refine (appnum_any w.heap.size _ _ (N k) _ hown bel.size (by rw [unhide HLn]; omega) hN0.2 hN0.1).mono ?_
      rintro e w2 ⟨v2, rfl, ho2, hb2⟩
      go_wp2
      go_roundw
      case rel => exact ⟨k + 1, by omega, by go_num, ho2, bel.trans hb2⟩
      case measure => simp [intOf]; omega
    · have hkn : k = n := by omega
      subst hkn
      go_wp2
      go_ret
      exact ⟨_, rfl, hown, bel⟩
end Go.Proofs.YtbnfilhilgjnfaaDoor.Oc

namespace Go.Proofs.YtbnfilhilgjnfaaDoor.Oc
set_option linter.unusedVariables false
set_option maxRecDepth 100000
set_option linter.unusedSimpArgs false
open Go.ChangeShapes Go.WideShapes Go.ChangeAt Go.RowKit

/-- a place lies in block g from o on: these bytes, so far -/
def Pl (w : World) (g o : Nat) (v : Value) (k : Nat) : Prop :=
  (w.cell? ⟨g, o, none⟩ = some v ∧ w.cell? ⟨g, o + 1, none⟩ = some (.int .i64 (k : Int)) ∧ w.frozen? ⟨g, o, none⟩ = false ∧ w.frozen? ⟨g, o + 1, none⟩ = false) ∧ g < w.heap.size
/-- only the place's two cells, and blocks behind it, have turned -/
def Moved (w w' : World) (g o : Nat) : Prop :=
  Below g w w' ∧ (∀ j, j ≠ o → j ≠ o + 1 → w'.cell? ⟨g, j, none⟩ = w.cell? ⟨g, j, none⟩) ∧ (∀ j, w'.frozen? ⟨g, j, none⟩ = w.frozen? ⟨g, j, none⟩) ∧ ∀ j, j < w.heap.size → j ≠ g → w'.heap[j]? = w.heap[j]?
theorem Moved.refl (w : World) (g o : Nat) : Moved w w g o := ⟨Below.refl _ _, fun _ _ _ => rfl, fun _ => rfl, fun _ _ _ => rfl⟩
theorem Moved.trans {a b c : World} {g o : Nat} (h : Moved a b g o) (k : Moved b c g o) : Moved a c g o :=
  ⟨h.1.trans k.1, fun j h1 h2 => (k.2.1 j h1 h2).trans (h.2.1 j h1 h2), fun j => (k.2.2.1 j).trans (h.2.2.1 j), fun j h1 h2 => (k.2.2.2 j (Nat.lt_of_lt_of_le h1 h.1.size) h2).trans (h.2.2.2 j h1 h2)⟩
theorem Moved.below {w w' : World} {g o : Nat} (hg : g < w.heap.size) (h : Below w.heap.size w w') : Moved w w' g o :=
  ⟨h.mono (Nat.le_of_lt hg), fun j _ _ => h.cell (p := ⟨g, j, none⟩) hg, fun j => h.frozen (p := ⟨g, j, none⟩) hg, fun j h1 _ => h.block j h1⟩
theorem set_other {w : World} {g i j : Nat} (v : Value) (h : i ≠ j) : (w.setCell ⟨g, i, none⟩ v).cell? ⟨g, j, none⟩ = w.cell? ⟨g, j, none⟩ := by
  apply World.cell?_setCell_other
  intro e
  injection e with _ e2 _
  exact h e2
theorem set_same {w : World} {a : Addr} {u : Value} (v : Value) (h : w.cell? a = some u) : (w.setCell a v).cell? a = some v := by
  apply World.cell?_setCell_same
  exact h
theorem Moved.set1 (w : World) (g o : Nat) (v : Value) : Moved w (w.setCell ⟨g, o + 1, none⟩ v) g o :=
  ⟨(Below.refl g w).setCell (Nat.le_refl g) v, fun j h1 h2 => set_other v (fun e => h2 e.symm), fun j => by simp, fun j _ h2 => Below.heap_setCell _ _ _ _ h2⟩
theorem Moved.set0 (w : World) (g o : Nat) (v : Value) : Moved w (w.setCell ⟨g, o, none⟩ v) g o :=
  ⟨(Below.refl g w).setCell (Nat.le_refl g) v, fun j h1 h2 => set_other v (fun e => h1 e.symm), fun j => by simp, fun j _ h2 => Below.heap_setCell _ _ _ _ h2⟩
theorem Pl.below {w w' : World} {g o k : Nat} {v : Value} (h : Pl w g o v k) (hb : Below (g + 1) w w') : Pl w' g o v k := by
  obtain ⟨⟨h0, h1, h2, h3⟩, hs⟩ := h
  refine ⟨⟨cell_keep hb (Nat.lt_succ_self _) h0, cell_keep hb (Nat.lt_succ_self _) h1, ?_, ?_⟩, Nat.lt_of_lt_of_le hs hb.size⟩
  · rw [hb.frozen (p := ⟨g, o, none⟩) (Nat.lt_succ_self _)]; exact h2
  · rw [hb.frozen (p := ⟨g, o + 1, none⟩) (Nat.lt_succ_self _)]; exact h3
theorem Byt.low {w w1 : World} {g : Nat} {v : Value} {l : List Nat} (h : Byt w v l) (hb : Below g w w1) (hg : ∀ a n cap, v = .slice (some a) n cap → 0 < n → a.block < g) : Byt w1 v l := by
  rcases h with h | ⟨a, cap, hv, h1, h2, h3⟩
  · exact .inl h
  · refine .inr ⟨a, cap, hv, h1, h2, fun i y hy => ?_⟩
    have hpos : 0 < l.length := by
      cases l with
      | nil => simp at hy
      | cons x l => simp
    have := h3 i y hy
    refine cell_keep hb ?_ this
    have hlt := hg a _ cap hv hpos
    obtain ⟨b, off, s⟩ := a
    simp only [Addr.add]
    split <;> exact hlt

theorem Pl.put {w : World} {g o k : Nat} {v : Value} (h : Pl w g o v k) (v' : Value) (k' : Nat) :
    Pl ((w.setCell ⟨g, o, none⟩ v').setCell ⟨g, o + 1, none⟩ (.int .i64 (k' : Int))) g o v' k' ∧ Moved w ((w.setCell ⟨g, o, none⟩ v').setCell ⟨g, o + 1, none⟩ (.int .i64 (k' : Int))) g o := by
  obtain ⟨⟨p0, p1, p2, p3⟩, ps⟩ := h
  refine ⟨⟨⟨?_, ?_, ?_, ?_⟩, ?_⟩, (Moved.set0 _ g o _).trans (Moved.set1 _ g o _)⟩
  · rw [set_other _ (by omega)]; exact set_same _ p0
  · refine set_same (u := .int .i64 (k : Int)) _ ?_
    rw [set_other _ (by omega)]; exact p1
  · simpa using p2
  · simpa using p3
  · simpa using ps
/-- bytes that lie below a block -/
def Low (v : Value) (g : Nat) : Prop := ∀ a n cap, v = .slice (some a) n cap → 0 < n → a.block < g
theorem Low.mono {v : Value} {g g' : Nat} (h : Low v g) (hg : g ≤ g') : Low v g' := fun a n cap e hn => Nat.lt_of_lt_of_le (h a n cap e hn) hg

theorem take_byt {w w' : World} {a : Addr} {l : List Nat} {cap k m g n o : Nat} (h : ∀ (i y : Nat), l[i]? = some y → w.cell? (a.add i) = some (.int .u8 (y : Int))) (hn : l.length = n) (hk : k + m ≤ n) (hc : n ≤ cap) (hm : cap ≤ maxLen) (hg : 0 < n → a.block < g) (hb : Moved w w' g o) :
    Byt w' (.slice (some (a.add k)) m (cap - k)) ((l.drop k).take m) := by
  have hlen : ((l.drop k).take m).length = m := by rw [List.length_take, List.length_drop]; omega
  refine .inr ⟨a.add k, cap - k, by rw [hlen], by rw [hlen]; omega, by omega, fun i y hy => ?_⟩
  have hi : i < m := by
    by_cases hi : i < m
    · exact hi
    · rw [List.getElem?_eq_none (by rw [hlen]; omega)] at hy; cases hy
  rw [List.getElem?_take_of_lt hi, List.getElem?_drop] at hy
  rw [Deep.add_add]
  have := h _ y hy
  refine cell_keep hb.1 ?_ this
  have hlt := hg (by omega)
  obtain ⟨b, off, s⟩ := a
  simp only [Addr.add]
  split <;> exact hlt

set_option maxHeartbeats 400000 in
theorem left_any (g o : Nat) (a : Option Addr) (n cap k : Nat) (w : World) (hp : Pl w g o (.slice a n cap) k) (hk : k ≤ n) (hn : n ≤ maxLen) :
    Calls Tryd.prog 57 #[.pointer (some ⟨g, o, none⟩)] w fun e w' => e = .returned (.int .i64 ((n : Int) - (k : Int))) ∧ ∃ d, w' = w.drewN d := by
  unfold maxLen at hn
  have hF := hp.1
  go_enter Tryd.func57, Tryd.ntmps57
  go_wp2_with fail
  go_quiet (fail)
  go_wp2
  go_ret
  exact ⟨rfl, nq, rfl⟩

set_option maxHeartbeats 1000000 in
theorem take_short (g o : Nat) (a : Option Addr) (n cap k : Nat) (m : Int) (w : World) (hp : Pl w g o (.slice a n cap) k) (hk : k ≤ n) (hn : n ≤ maxLen) (hm : (n : Int) - (k : Int) < m) :
    Calls Tryd.prog 79 #[.pointer (some ⟨g, o, none⟩), .int .i64 m] w fun e w' => e = .returned (.tuple #[.slice none 0 0, .int .i64 2]) ∧ ∃ d, w' = w.drewN d := by
  go_enter Tryd.func79, Tryd.ntmps79
  go_wp2_with (go_at_call 57; refine (left_any g o a n cap k _ hp hk hn).mono ?_; rintro e w' ⟨rfl, d, rfl⟩)
  go_ret2
  exact ⟨rfl, d, rfl⟩

set_option maxHeartbeats 1000000 in
theorem take_any (g o : Nat) (v : Value) (l : List Nat) (k m : Nat) (w : World) (hv : Byt w v l) (hp : Pl w g o v k) (hg : Low v g) (hl : l.length ≤ 1000000000) (hk : k + m ≤ l.length) :
    Calls Tryd.prog 79 #[.pointer (some ⟨g, o, none⟩), .int .i64 (m : Int)] w fun e w' => ∃ v', e = .returned (.tuple #[v', .int .i64 0]) ∧ Byt w' v' ((l.drop k).take m) ∧ Pl w' g o v (k + m) ∧ Moved w w' g o ∧ (∀ G, Low v G → Low v' G) := by
  have hv0 := hv
  have hfin : ∀ d, Pl ((w.drewN d).setCell ⟨g, o + 1, none⟩ (.int .i64 ((k + m : Nat) : Int))) g o v (k + m) ∧ Moved w ((w.drewN d).setCell ⟨g, o + 1, none⟩ (.int .i64 ((k + m : Nat) : Int))) g o := by
    intro d
    have hp1 : Pl (w.drewN d) g o v k := hp.below (Joins.below_draws _ _ d)
    obtain ⟨⟨p0, p1, p2, p3⟩, ps⟩ := hp1
    refine ⟨⟨⟨?_, ?_, ?_, ?_⟩, ?_⟩, (Moved.below hp.2 (Joins.below_draws _ _ d)).trans (Moved.set1 _ g o _)⟩
    · rw [set_other _ (by omega)]; exact p0
    · exact set_same _ p1
    · simpa using p2
    · simpa using p3
    · simpa using ps
  have HF := hide hfin
  clear hfin
  rcases hv with ⟨rfl, rfl⟩ | ⟨a, cap, rfl, h1, h2, h3⟩
  · have hk0 : k = 0 := by simp at hk; omega
    have hm0 : m = 0 := by simp at hk; omega
    subst hk0 hm0
    have hF := hp.1
    go_enter Tryd.func79, Tryd.ntmps79
    go_wp2_with (go_at_call 57; refine (left_any g o none 0 0 0 _ hp (Nat.le_refl _) (Nat.zero_le _)).mono ?_; rintro e w' ⟨rfl, d, rfl⟩)
    go_quiet (fail)
    go_wp2
    go_ret2
    have := unhide HF (d + nq)
    refine ⟨_, rfl, .inl ⟨rfl, rfl⟩, ?_, ?_, fun G _ a n cap e => by cases e⟩
    · have q := this.1
      simpa [World.drewN, Nat.add_assoc] using q
    · have q := this.2
      simpa [World.drewN, Nat.add_assoc] using q
  · obtain ⟨n, hn⟩ : ∃ n, l.length = n := ⟨_, rfl⟩
    rw [hn] at h1 hl hk hp hg hv0 HF ⊢
    have HN := hide hn
    have HC := hide h3
    clear h3 hn
    have hF := hp.1
    have g1 : (0 : Int) ≤ (k : Int) := by omega
    have g2 : (k : Int) ≤ (k : Int) + (m : Int) := by omega
    have g3 : (k : Int) + (m : Int) ≤ (cap : Int) := by omega
    have g4 : (k : Int) + (m : Int) ≤ (n : Int) := by omega
    go_enter Tryd.func79, Tryd.ntmps79
    go_wp2_with (go_at_call 57; refine (left_any g o (some a) n cap k _ hp (by omega) (by unfold maxLen; omega)).mono ?_; rintro e w' ⟨rfl, d, rfl⟩)
    have e1 : ((k + m : Nat) : Int) = (k : Int) + (m : Int) := by omega
    have e2 : k + m - k = m := by omega
    by_cases hcap : cap = k
    · have hm0 : m = 0 := by omega
      subst hm0
      subst hcap
      go_quiet (fail)
      go_wp2
      go_ret2
      have hh := unhide HF (d + nq)
      refine ⟨_, rfl, ?_, ?_, ?_, ?_⟩
      · exact .inr ⟨a, 0, by simp, by simp, Nat.zero_le _, fun i y hy => by simp at hy⟩
      · have q := hh.1
        simpa [World.drewN, Nat.add_assoc] using q
      · have q := hh.2
        simpa [World.drewN, Nat.add_assoc] using q
      · intro G _ a' n' cap' e hpos
        injection e with _ e3 _
        omega
    · go_quiet (fail)
      go_wp2
      go_ret2
      have hh := unhide HF (d + nq)
      have hM : Moved w ((w.drewN (d + nq)).setCell ⟨g, o + 1, none⟩ (.int .i64 ((k : Int) + (m : Int)))) g o := by
        have q := hh.2
        rw [e1] at q
        exact q
      refine ⟨_, rfl, ?_, ?_, hM, ?_⟩
      · have q := take_byt (unhide HC) (unhide HN) hk h1 h2 (fun hp => hg a n cap rfl hp) hM
        rw [← e2] at q
        simpa using q
      · have q := hh.1
        rw [e1] at q
        simpa [World.drewN, Nat.add_assoc] using q
      · intro G hG a' n' cap' e hpos
        injection e with e3 e4 _
        injection e3 with e5
        subst e5
        have hlt := hG a n cap rfl (by omega)
        obtain ⟨b, off, s⟩ := a
        simp only [Addr.add]
        split <;> exact hlt

/-- the number that bytes are -/
def numOf (l : List Nat) : Nat := l.foldl (fun u x => u * 256 + x) 0
theorem numOf_take {l : List Nat} {k y : Nat} (h : l[k]? = some y) : numOf (l.take (k + 1)) = numOf (l.take k) * 256 + y := by
  have hk : k < l.length := by
    by_cases hk : k < l.length
    · exact hk
    · rw [List.getElem?_eq_none (by omega)] at h; cases h
  rw [List.take_succ_eq_append_getElem hk, numOf, List.foldl_append]
  rw [List.getElem?_eq_getElem hk] at h
  obtain rfl := Option.some.inj h
  rfl
theorem numOf_lt (l : List Nat) (h : ∀ y ∈ l, y < 256) : numOf l < 256 ^ l.length := by
  have : ∀ (l : List Nat) (c n : Nat), c < 256 ^ n → (∀ y ∈ l, y < 256) → l.foldl (fun u x => u * 256 + x) c < 256 ^ (n + l.length) := by
    intro l
    induction l with
    | nil => intro c n hc _; simpa using hc
    | cons x l ih =>
      intro c n hc hl
      have hx := hl x (List.mem_cons_self ..)
      have := ih (c * 256 + x) (n + 1) (by rw [Nat.pow_succ]; omega) (fun y hy => hl y (List.mem_cons_of_mem _ hy))
      rw [List.length_cons, show n + (l.length + 1) = n + 1 + l.length by omega]
      exact this
  have := this l 0 0 (by decide) h
  simpa [numOf] using this
theorem or_join (u x : Nat) (hu : u < 72057594037927936) (hx : x < 256) : bits .or .u64 ((u : Int) * 256) (x : Int) = ((u * 256 + x : Nat) : Int) := by
  have e : ((u : Int) * 256) = ((u * 256 : Nat) : Int) := by omega
  rw [e, u64_or_nat _ _ (by omega) (by omega)]
  congr 1
  have h : u * 256 = u <<< 8 := by rw [Nat.shiftLeft_eq]
  rw [h, ← Nat.shiftLeft_add_eq_or_of_lt (by omega)]

theorem Pl.fresh {w : World} {v : Value} {k : Nat} : Pl (w.alloc (.cells #[v, .int .i64 (k : Int)] 82)) w.heap.size 0 v k := by
  refine ⟨⟨?_, ?_, ?_, ?_⟩, ?_⟩
  all_goals (simp [go_sem]; done)

theorem byt_len {w : World} {a : Option Addr} {n cap : Nat} {l : List Nat} (h : Byt w (.slice a n cap) l) : l.length = n := by
  rcases h with ⟨e, rfl⟩ | ⟨a', cap', e, _⟩
  · injection e with _ e2 _; exact e2.symm
  · injection e with _ e2 _; exact e2.symm

set_option maxHeartbeats 2000000 in
theorem within_any (g o : Nat) (a : Option Addr) (n cap : Nat) (l : List Nat) (k : Nat) (lo hi : Int) (w : World) (hv : Byt w (.slice a n cap) l) (hp : Pl w g o (.slice a n cap) k) (hg : Low (.slice a n cap) g) (hl : n ≤ 1000000000) (hk : k + 8 ≤ n) (h256 : ∀ y ∈ l, y < 256)
    (u : Nat) (hu : numOf ((l.drop k).take 8) = u) (hin : lo ≤ (u : Int) ∧ (u : Int) ≤ hi) (hmax : u ≤ 9223372036854775807) :
    Calls Tryd.prog 67 #[.pointer (some ⟨g, o, none⟩), .int .i64 lo, .int .i64 hi] w fun e w' => e = .returned (.tuple #[.int .i64 (u : Int), .int .i64 0]) ∧ Pl w' g o (.slice a n cap) (k + 8) ∧ Moved w w' g o := by
  have hF := hp.1
  have hgz := hp.2
  have hq := Pl.fresh (w := w) (v := .slice a n cap) (k := k)
  have hb0 : Below w.heap.size w (w.alloc (.cells #[.slice a n cap, .int .i64 (k : Int)] 82)) := (Below.refl _ _).alloc (Nat.le_refl _) _
  have hv1 := hv.call hb0
  have hg1 : Low (.slice a n cap) w.heap.size := hg.mono (Nat.le_of_lt hgz)
  have hln := byt_len hv
  have HLN := hide hln
  have HU := hide hu
  have H256 := hide h256
  have hk' : k + 8 ≤ l.length := by rw [hln]; exact hk
  have hl' : l.length ≤ 1000000000 := by rw [hln]; exact hl
  clear hu h256 hln
  go_enter Tryd.func67, Tryd.ntmps67
  go_wp2_with fail
  refine (take_any w.heap.size 0 (.slice a n cap) l k 8 _ hv1 hq hg1 hl' hk').mono ?_
  rintro e w1 ⟨v1, rfl, hv2, hq1, hm1, hg2⟩
  obtain ⟨bs, hbs⟩ : ∃ bs, (l.drop k).take 8 = bs := ⟨_, rfl⟩
  have hbl : bs.length = 8 := by rw [← hbs, List.length_take, List.length_drop]; omega
  have hb256 : ∀ y ∈ bs, y < 256 := fun y hy => unhide H256 y (List.mem_of_mem_drop (List.mem_of_mem_take (by rw [hbs]; exact hy)))
  rw [hbs] at hv2 HU
  rcases hv2 with ⟨_, h0⟩ | ⟨a2, cap2, rfl, c1, c2, c3⟩
  · rw [h0] at hbl; cases hbl
  rw [hbl] at c1 ⊢
  obtain ⟨b2, off2, rfl⟩ := plain_of c3 (by rw [hbl]; decide)
  have hbelow : Below (w.heap.size) w w1 := hb0.trans hm1.1
  have hpw1 : Pl w1 g o (.slice a n cap) k := hp.below (hbelow.mono hgz)
  have HBS := hide hbs
  have HBL := hide hbl
  have HB256 := hide hb256
  have HC3 := hide c3
  clear hbs hbl hb256 c3 hv1 hg1
  have hQF := hq1.1
  have hPF := hpw1.1
  go_wp2_with fail
  go_loop [11, 26] (fun c i => ∃ j : Nat, j ≤ 8 ∧ i = .int .i64 j ∧ c = .int .u64 ((numOf (bs.take j) : Nat) : Int)) (fun _ i => 8 - (intOf i).toNat)
  case atStart => exact ⟨0, by omega, rfl, rfl⟩
  case round =>
    obtain ⟨j, hj, rfl, rfl⟩ := hrel
    have hlt0 := numOf_lt (bs.take j) (fun y hy => unhide HB256 y (List.mem_of_mem_take hy))
    rw [List.length_take, unhide HBL] at hlt0
    by_cases hlt : j < 8
    · have hlt1 : numOf (bs.take j) < 72057594037927936 := by
        have : 256 ^ min j 8 ≤ 256 ^ 7 := Nat.pow_le_pow_right (by decide) (by omega)
        have e : (256 : Nat) ^ 7 = 72057594037927936 := by decide
        omega
      obtain ⟨y, hy⟩ : ∃ y, bs[j]? = some y := ⟨_, List.getElem?_eq_getElem (by rw [unhide HBL]; exact hlt)⟩
      have hcell := unhide HC3 j y hy
      rw [add_plain] at hcell
      have hy256 := unhide HB256 y (List.mem_of_getElem? hy)
      have hnx := numOf_take hy
      clear hlt0
      generalize numOf (bs.take j) = c at *
      have hj1 := or_join c y hlt1 hy256
      have HNX := hide hnx
      clear hnx hy
      have g1 : (0 : Int) ≤ (j : Int) := by omega
      have g2 : (j : Int) < 8 := by omega
      go_wp2_with fail
      go_round
      case rel => exact ⟨j + 1, by omega, by go_num, by rw [unhide HNX]; go_num⟩
      case measure => simp [intOf]; omega
    · have hj8 : j = 8 := by omega
      subst hj8
      have e1 : bs.take 8 = bs := List.take_of_length_le (by rw [unhide HBL]; omega)
      rw [e1, unhide HU]
      clear hlt0 e1
      have t1 : decide ((9223372036854775807 : Int) < (u : Int)) = false := by simp; omega
      have t2 : decide ((u : Int) < lo) = false := by simp; omega
      have t3 : decide (hi < (u : Int)) = false := by simp; omega
      go_wp2_with fail
      go_ret2
      refine ⟨rfl, ?_, ?_⟩
      · have q := (Pl.put hpw1 (.slice a n cap) (k + 8)).1
        simpa using q
      · refine (Moved.below hgz hbelow).trans ?_
        have q := (Pl.put hpw1 (.slice a n cap) (k + 8)).2
        simpa using q
end Go.Proofs.YtbnfilhilgjnfaaDoor.Oc

namespace Go.Proofs.YtbnfilhilgjnfaaDoor.Oc
set_option linter.unusedVariables false
set_option maxRecDepth 100000
set_option linter.unusedSimpArgs false
open Go.ChangeShapes Go.WideShapes Go.ChangeAt Go.RowKit

set_option maxHeartbeats 2000000 in
theorem bytes_any (g o : Nat) (a : Option Addr) (n cap : Nat) (l : List Nat) (k : Nat) (most : Int) (w : World) (hv : Byt w (.slice a n cap) l) (hp : Pl w g o (.slice a n cap) k) (hg : Low (.slice a n cap) g) (hl : n ≤ 1000000000) (h256 : ∀ y ∈ l, y < 256)
    (m : Nat) (hm : numOf ((l.drop k).take 8) = m) (hk : k + 8 + m ≤ n) (hmost : (m : Int) ≤ max most 0) :
    Calls Tryd.prog 68 #[.pointer (some ⟨g, o, none⟩), .int .i64 most] w fun e w' => ∃ v', e = .returned (.tuple #[v', .int .i64 0]) ∧ Byt w' v' ((l.drop (k + 8)).take m) ∧ Pl w' g o (.slice a n cap) (k + 8 + m) ∧ Moved w w' g o ∧ (∀ G, Low (.slice a n cap) G → Low v' G) := by
  have hF := hp.1
  have hgz := hp.2
  have hq := Pl.fresh (w := w) (v := .slice a n cap) (k := k)
  have hb0 : Below w.heap.size w (w.alloc (.cells #[.slice a n cap, .int .i64 (k : Int)] 82)) := (Below.refl _ _).alloc (Nat.le_refl _) _
  have hv1 := hv.call hb0
  have hg1 : Low (.slice a n cap) w.heap.size := hg.mono (Nat.le_of_lt hgz)
  have hln := byt_len hv
  have HLN := hide hln
  have HM := hide hm
  have H256 := hide h256
  have hk' : k + 8 + m ≤ l.length := by rw [hln]; exact hk
  have hl' : l.length ≤ 1000000000 := by rw [hln]; exact hl
  clear hm h256 hln
  go_enter Tryd.func68, Tryd.ntmps68
  go_wp2_with fail
  refine (within_any w.heap.size 0 a n cap l k 0 9223372036854775807 _ hv1 hq hg1 hl (by omega) (unhide H256) m (unhide HM) ⟨by omega, by omega⟩ (by omega)).mono ?_
  rintro e w1 ⟨rfl, hq1, hm1⟩
  have hbelow : Below (w.heap.size) w w1 := hb0.trans hm1.1
  have hv2 : Byt w1 (.slice a n cap) l := hv.low hbelow hg1
  have hQF := hq1.1
  have t1 : decide (max most 0 < (m : Int)) = false := by simp; omega
  go_wp2_with fail
  all_goals (
    refine (take_any w.heap.size 0 (.slice a n cap) l (k + 8) m _ hv2 hq1 hg1 hl' hk').mono ?_
    rintro e w2 ⟨v2, rfl, hv3, hq2, hm2, hlow⟩
    have hbelow2 : Below (w.heap.size) w w2 := hbelow.trans hm2.1
    have hpw2 : Pl w2 g o (.slice a n cap) k := hp.below (hbelow2.mono hgz)
    have hQF2 := hq2.1
    have hPF2 := hpw2.1
    clear hQF
    go_wp2_with fail
    go_ret2
    have q := Pl.put hpw2 (.slice a n cap) (k + 8 + m)
    refine ⟨_, rfl, ?_, ?_, ?_, hlow⟩
    · refine hv3.low (g := g) ?_ (hlow g hg)
      exact ((Below.refl g w2).setCell (Nat.le_refl g) _).setCell (Nat.le_refl g) _
    · simpa using q.1
    · refine (Moved.below hgz hbelow2).trans ?_
      simpa using q.2)
theorem Byt.drew {w : World} {v : Value} {l : List Nat} (h : Byt w v l) (d : Nat) : Byt (w.drewN d) v l := by
  rcases h with h | ⟨a, cap, hv, h1, h2, h3⟩
  · exact .inl h
  · exact .inr ⟨a, cap, hv, h1, h2, fun i y hy => by have := h3 i y hy; simpa using this⟩
theorem or32 (a b i : Nat) (h : b < 2 ^ i) (ha : a * 2 ^ i < 4294967296) (hb : b < 4294967296) : bits .or .u32 ((a * 2 ^ i : Nat) : Int) (b : Int) = ((a * 2 ^ i + b : Nat) : Int) := by
  rw [u32_or_nat _ _ ha hb]
  congr 1
  rw [← Nat.shiftLeft_eq, ← Nat.shiftLeft_add_eq_or_of_lt h]
theorem or32' (a b i p : Nat) (x y z : Int) (hi : 2 ^ i = p) (h : b < p) (ha : a * p < 4294967296) (hb : b < 4294967296) (hx : x = ((a * p : Nat) : Int)) (hy : y = ((b : Nat) : Int)) (hz : z = ((a * p + b : Nat) : Int)) : bits .or .u32 x y = z := by
  subst hx hy hz hi
  exact or32 a b i h ha hb
theorem join32 (y0 y1 y2 y3 : Nat) (s : Int) (z0 : y0 < 256) (z1 : y1 < 256) (z2 : y2 < 256) (z3 : y3 < 256) (hs : s = ((y0 * 16777216 + y1 * 65536 + y2 * 256 + y3 : Nat) : Int)) :
    bits .or .u32 ((y0 : Int) * 16777216) ((y1 : Int) * 65536) = (y0 : Int) * 16777216 + (y1 : Int) * 65536 ∧ bits .or .u32 ((y0 : Int) * 16777216 + (y1 : Int) * 65536) ((y2 : Int) * 256) = (y0 : Int) * 16777216 + (y1 : Int) * 65536 + (y2 : Int) * 256 ∧ bits .or .u32 ((y0 : Int) * 16777216 + (y1 : Int) * 65536 + (y2 : Int) * 256) (y3 : Int) = s := by
  refine ⟨?_, ?_, ?_⟩
  · exact or32' y0 (y1 * 65536) 24 16777216 _ _ _ (by decide) (by omega) (by omega) (by omega) (by omega) (by omega) (by omega)
  · exact or32' (y0 * 256 + y1) (y2 * 256) 16 65536 _ _ _ (by decide) (by omega) (by omega) (by omega) (by omega) (by omega) (by omega)
  · exact or32' (y0 * 65536 + y1 * 256 + y2) y3 8 256 _ _ _ (by decide) (by omega) (by omega) (by omega) (by omega) rfl (hs.trans (congrArg Nat.cast (by omega)))
theorem slice_byt {w : World} {a : Addr} {l : List Nat} {cap k m n : Nat} (h : ∀ (i y : Nat), l[i]? = some y → w.cell? (a.add i) = some (.int .u8 (y : Int))) (hn : l.length = n) (hk : k + m ≤ n) (hc : n ≤ cap) (hm : cap ≤ maxLen) :
    Byt w (.slice (some (a.add k)) m (cap - k)) ((l.drop k).take m) :=
  take_byt (g := a.block + 1) (o := 0) h hn hk hc hm (fun _ => Nat.lt_succ_self _) (Moved.refl _ _ _)

end Go.Proofs.YtbnfilhilgjnfaaDoor.Oc

namespace Go.Proofs.YtbnfilhilgjnfaaDoor.Oc
set_option linter.unusedVariables false
set_option maxRecDepth 100000
set_option linter.unusedSimpArgs false
open Go.ChangeShapes Go.WideShapes Go.ChangeAt Go.RowKit

set_option maxHeartbeats 1000000 in
theorem clone_any (v : Value) (l : List Nat) (w : World) (hv : Byt w v l) (hl : l.length ≤ 1000000000) :
    Calls Tryd.prog 17 #[v] w fun e w' => ∃ v', e = .returned v' ∧ w'.ownsRow w.heap.size 5 1 v' l.length (bv l) ∧ Below w.heap.size w w' := by
  obtain ⟨i0, hi, hz0, hz1, hz2⟩ := info_parts info5
  rcases hv with ⟨rfl, rfl⟩ | ⟨a, cap, rfl, h1, h2, h3⟩
  · have hq := fun W => Go.run_eql_slice_nil (P := Tryd.prog) W 30 5 none 0 0 Tryd.underlying30
    go_enter Tryd.func17, Tryd.ntmps17
    go_wp2
    go_ret
    exact ⟨_, rfl, ⟨rfl, .inl ⟨rfl, rfl⟩⟩, Below.refl _ _⟩
  · have hq := fun W => Go.run_eql_slice_nil (P := Tryd.prog) W 30 5 (some a) l.length cap Tryd.underlying30
    have hB : Below w.heap.size w (w.alloc (.cells #[] 5)) := (Below.refl _ _).alloc (Nat.le_refl _) _
    have hnews := Byt.news h3
    generalize hn : l.length = n at *
    have HN := hide hnews
    have HL := hide hn
    clear hnews h3 hn
    have hown : (w.alloc (.cells #[] 5)).ownsRow w.heap.size 5 1 (.slice (some ⟨w.heap.size, 0, none⟩) 0 0) 0 [] := World.ownsRow_made w #[] 0 (Nat.le_refl _) (Nat.zero_le _) rfl
    go_enter Tryd.func17, Tryd.ntmps17
    go_wp2_with (at_builtin; refine wpList_append_own _ rfl _ _ 30 rfl w.heap.size 5 i0 (.int .u8 0) 1 1 Tryd.underlying30 hi hz0 hz1 hz2 rfl (by decide) _ _ _ rfl hown a n cap (bv l) rfl ?c0 ?c1 ?c2 ?c3 ?c4 ?c5 ?_)
    case c0 => rw [bv_len, unhide HL]; omega
    case c1 =>
      intro j u hj
      have := unhide HN j u hj
      exact cell_keep hB (lt_of_cell this) this
    case c2 => exact bv_one l
    case c3 => unfold maxLen; omega
    case c4 => omega
    case c5 => simp
    intro v' w2 hown' hgrow' _
    go_wp2
    go_ret
    refine ⟨_, rfl, ?_, ?_⟩
    · simpa using hown'
    · exact hB.grown hgrow' hB.size (fun k hk => by simp [Value.ownBlock] at hk; omega)

end Go.Proofs.YtbnfilhilgjnfaaDoor.Oc

namespace Go.Proofs.YtbnfilhilgjnfaaDoor.Oc
set_option linter.unusedVariables false
set_option maxRecDepth 100000
set_option linter.unusedSimpArgs false
open Go.ChangeShapes Go.WideShapes Go.ChangeAt Go.RowKit

/-- a reader in block g -/
def Rdr (w : World) (g : Nat) (v : Value) (k : Nat) (e : Int) : Prop :=
  Pl w g 0 v k ∧ w.cell? ⟨g, 2, none⟩ = some (.bool true) ∧ w.cell? ⟨g, 3, none⟩ = some (.int .i64 e) ∧ w.frozen? ⟨g, 2, none⟩ = false ∧ w.frozen? ⟨g, 3, none⟩ = false
theorem Rdr.below {w w' : World} {g k : Nat} {v : Value} {e : Int} (h : Rdr w g v k e) (hb : Below (g + 1) w w') : Rdr w' g v k e := by
  obtain ⟨h0, h1, h2, h3, h4⟩ := h
  refine ⟨h0.below hb, cell_keep hb (Nat.lt_succ_self _) h1, cell_keep hb (Nat.lt_succ_self _) h2, ?_, ?_⟩
  · rw [hb.frozen (p := ⟨g, 2, none⟩) (Nat.lt_succ_self _)]; exact h3
  · rw [hb.frozen (p := ⟨g, 3, none⟩) (Nat.lt_succ_self _)]; exact h4
theorem Rdr.moved {w w' : World} {g k k' : Nat} {v : Value} {e : Int} (h : Rdr w g v k e) (hp : Pl w' g 0 v k') (hm : Moved w w' g 0) : Rdr w' g v k' e := by
  obtain ⟨h0, h1, h2, h3, h4⟩ := h
  refine ⟨hp, ?_, ?_, ?_, ?_⟩
  · rw [hm.2.1 2 (by decide) (by decide)]; exact h1
  · rw [hm.2.1 3 (by decide) (by decide)]; exact h2
  · rw [hm.2.2.1 2]; exact h3
  · rw [hm.2.2.1 3]; exact h4
theorem Rdr.err {w : World} {g k : Nat} {v : Value} {e : Int} (h : Rdr w g v k e) (e' : Int) : Rdr (w.setCell ⟨g, 3, none⟩ (.int .i64 e')) g v k e' := by
  obtain ⟨⟨⟨p0, p1, p2, p3⟩, ps⟩, h1, h2, h3, h4⟩ := h
  refine ⟨⟨⟨?_, ?_, ?_, ?_⟩, ?_⟩, ?_, ?_, ?_, ?_⟩
  · rw [set_other _ (by decide)]; exact p0
  · rw [set_other _ (by decide)]; exact p1
  · simpa using p2
  · simpa using p3
  · simpa using ps
  · rw [set_other _ (by decide)]; exact h1
  · exact set_same _ h2
  · simpa using h3
  · simpa using h4
theorem Rdr.fresh {w : World} {v : Value} : Rdr (w.alloc (.cells #[v, .int .i64 0, .bool true, .int .i64 0] 84)) w.heap.size v 0 0 := by
  refine ⟨⟨⟨?_, ?_, ?_, ?_⟩, ?_⟩, ?_, ?_, ?_, ?_⟩
  all_goals (simp [go_sem]; done)
theorem byt_shape {w : World} {v : Value} {l : List Nat} (h : Byt w v l) : ∃ a cap, v = .slice a l.length cap := by
  rcases h with ⟨rfl, rfl⟩ | ⟨a, cap, rfl, _⟩
  · exact ⟨none, 0, rfl⟩
  · exact ⟨some a, cap, rfl⟩
theorem byt_low {w : World} {v : Value} {l : List Nat} (h : Byt w v l) : Low v w.heap.size := by
  rcases h with ⟨rfl, rfl⟩ | ⟨a, cap, rfl, h1, h2, h3⟩
  · intro a n cap e; cases e
  · intro a' n' cap' e hpos
    injection e with e1 e2 _
    injection e1 with e1
    subst e1 e2
    have := lt_of_cell (h3 0 _ (List.getElem?_eq_getElem hpos))
    obtain ⟨b, off, s⟩ := a
    simp only [Addr.add] at this
    split at this <;> exact this

set_option maxHeartbeats 1000000 in
theorem read_any (v : Value) (l : List Nat) (w : World) (hv : Byt w v l) (hl : l.length ≤ 1000000000) :
    Calls Tryd.prog 36 #[v] w fun e w' => ∃ v' g, e = .returned (.pointer (some ⟨g, 0, none⟩)) ∧ w.heap.size ≤ g ∧ Rdr w' g v' 0 0 ∧ Byt w' v' l ∧ Low v' g ∧ Below w.heap.size w w' := by
  go_enter Tryd.func36, Tryd.ntmps36
  go_wp2_with fail
  refine (clone_any v l _ hv hl).mono ?_
  rintro e w1 ⟨v1, rfl, ho1, hb1⟩
  have hB := Byt.of_own ho1
  have hlow := byt_low hB
  obtain ⟨a1, cap1, rfl⟩ := byt_shape hB
  go_wp2_with fail
  go_ret
  have hb2 : Below w1.heap.size w1 (w1.alloc (.cells #[.slice a1 l.length cap1, .int .i64 0, .bool true, .int .i64 0] 84)) := (Below.refl _ _).alloc (Nat.le_refl _) _
  exact ⟨_, w1.heap.size, rfl, hb1.size, Rdr.fresh, hB.call hb2, hlow, hb1.trans (hb2.mono hb1.size)⟩

set_option maxHeartbeats 400000 in
theorem made_any (g : Nat) (v : Value) (k : Nat) (e0 : Int) (w : World) (hr : Rdr w g v k e0) :
    Calls Tryd.prog 70 #[.pointer (some ⟨g, 0, none⟩)] w fun e w' => e = .returned (.bool true) ∧ w = w' := by
  have h2 := hr.2
  go_enter Tryd.func70, Tryd.ntmps70
  go_wp2
  go_ret
  exact ⟨rfl, rfl⟩

set_option maxHeartbeats 400000 in
theorem err_any (g : Nat) (v : Value) (k : Nat) (e0 : Int) (w : World) (hr : Rdr w g v k e0) :
    Calls Tryd.prog 56 #[.pointer (some ⟨g, 0, none⟩)] w fun e w' => e = .returned (.int .i64 e0) ∧ w = w' := by
  have h2 := hr.2
  go_enter Tryd.func56, Tryd.ntmps56
  go_wp2_with (go_at_call 70; refine (made_any g v k e0 _ hr).mono ?_; rintro e w' ⟨rfl, rfl⟩)
  go_ret
  exact ⟨rfl, rfl⟩

set_option maxHeartbeats 1000000 in
theorem Within_any (g : Nat) (a : Option Addr) (n cap : Nat) (l : List Nat) (k : Nat) (lo hi : Int) (w : World) (hv : Byt w (.slice a n cap) l) (hr : Rdr w g (.slice a n cap) k 0) (hg : Low (.slice a n cap) g) (hl : n ≤ 1000000000) (hk : k + 8 ≤ n) (h256 : ∀ y ∈ l, y < 256)
    (u : Nat) (hu : numOf ((l.drop k).take 8) = u) (hin : lo ≤ (u : Int) ∧ (u : Int) ≤ hi) (hmax : u ≤ 9223372036854775807) :
    Calls Tryd.prog 54 #[.pointer (some ⟨g, 0, none⟩), .int .i64 lo, .int .i64 hi] w fun e w' => e = .returned (.int .i64 (u : Int)) ∧ Rdr w' g (.slice a n cap) (k + 8) 0 ∧ Below g w w' := by
  have HU := hide hu
  have H256 := hide h256
  clear hu h256
  go_enter Tryd.func54, Tryd.ntmps54
  go_wp2_with fail
  refine (err_any g _ k 0 _ hr).mono ?_
  rintro e w0 ⟨rfl, rfl⟩
  go_wp2_with fail
  refine (within_any g 0 a n cap l k lo hi _ hv hr.1 hg hl hk (unhide H256) u (unhide HU) hin hmax).mono ?_
  rintro e w1 ⟨rfl, hp1, hm1⟩
  have hr1 := hr.moved hp1 hm1
  have hc := hr1.2
  go_wp2_with fail
  go_ret
  refine ⟨rfl, hr1.err 0, hm1.1.setCell (Nat.le_refl g) _⟩

set_option maxHeartbeats 1000000 in
theorem Number_any (g : Nat) (a : Option Addr) (n cap : Nat) (l : List Nat) (k : Nat) (w : World) (hv : Byt w (.slice a n cap) l) (hr : Rdr w g (.slice a n cap) k 0) (hg : Low (.slice a n cap) g) (hl : n ≤ 1000000000) (hk : k + 8 ≤ n) (h256 : ∀ y ∈ l, y < 256)
    (u : Nat) (hu : numOf ((l.drop k).take 8) = u) (hmax : u ≤ 9223372036854775807) :
    Calls Tryd.prog 37 #[.pointer (some ⟨g, 0, none⟩)] w fun e w' => e = .returned (.int .i64 (u : Int)) ∧ Rdr w' g (.slice a n cap) (k + 8) 0 ∧ Below g w w' := by
  have HU := hide hu
  have H256 := hide h256
  clear hu h256
  go_enter Tryd.func37, Tryd.ntmps37
  go_wp2_with fail
  refine (Within_any g a n cap l k 0 9223372036854775807 _ hv hr hg hl hk (unhide H256) u (unhide HU) ⟨by omega, by omega⟩ hmax).mono ?_
  rintro e w0 ⟨rfl, h1, h2⟩
  go_wp2
  go_ret
  exact ⟨rfl, h1, h2⟩

set_option maxHeartbeats 1000000 in
theorem End_any (g : Nat) (a : Option Addr) (n cap : Nat) (w : World) (hr : Rdr w g (.slice a n cap) n 0) (hl : n ≤ 1000000000) :
    Calls Tryd.prog 39 #[.pointer (some ⟨g, 0, none⟩)] w fun e w' => e = .returned (.int .i64 0) ∧ ∃ d, w' = w.drewN d := by
  go_enter Tryd.func39, Tryd.ntmps39
  go_wp2_with fail
  refine (err_any g _ n 0 _ hr).mono ?_
  rintro e w0 ⟨rfl, rfl⟩
  go_wp2_with fail
  refine (left_any g 0 a n cap n _ hr.1 (Nat.le_refl _) (by unfold maxLen; omega)).mono ?_
  rintro e w' ⟨rfl, d, rfl⟩
  go_wp2
  go_ret
  exact ⟨rfl, d, rfl⟩
end Go.Proofs.YtbnfilhilgjnfaaDoor.Oc

namespace Go.Proofs.YtbnfilhilgjnfaaDoor.Oc
set_option linter.unusedVariables false
set_option maxRecDepth 100000
set_option linter.unusedSimpArgs false
open Go.ChangeShapes Go.WideShapes Go.ChangeAt Go.RowKit Go.Shelf

shelf_lay Lays.n195 Nm 195 at Tryd as Tryd.lays195
theorem fCount : Tryd.lays195_ren.f 195 = 66 := by kernel_rfl

theorem counts_any (s : ByteArray) (w : World) (hs : s.size < 9223372036854775807) :
    Calls Tryd.prog 66 #[.string s] w fun e w' => e = .returned (.int .i64 (Lib.runeCount s)) ∧ ∃ pos, w' = w.alloc (.stringIter s pos) := by
  have h := Any.utf8_RuneCountInString Tryd.lays195 s w hs
  rw [fCount] at h
  exact h

/-- what utf8's tables hold of one letter -/
def lenOf : Value → Nat
  | .slice _ n _ => n
  | _ => 0
end Go.Proofs.YtbnfilhilgjnfaaDoor.Oc

namespace Go.Proofs.YtbnfilhilgjnfaaDoor.Oc
set_option linter.unusedVariables false
set_option maxRecDepth 100000
set_option linter.unusedSimpArgs false
open Go.ChangeShapes Go.WideShapes Go.ChangeAt Go.RowKit Go.Shelf

def strOf (l : List Nat) : ByteArray := ⟨(l.map UInt8.ofNat).toArray⟩
theorem strOf_size (l : List Nat) : (strOf l).size = l.length := by simp [strOf, ByteArray.size]
theorem byt_convert {w : World} {v : Value} {l : List Nat} (h : Byt w v l) (h256 : ∀ y ∈ l, y < 256) : (convert 30 9 v).run Tryd.prog w = .ok (.string (strOf l)) w := by
  rcases h with ⟨rfl, rfl⟩ | ⟨a, cap, rfl, h1, h2, h3⟩
  · rw [run_convert_bytes_string w 30 9 5 none 0 0 Tryd.underlying30 Tryd.underlying5 Tryd.underlying9]
    simp [Conv.bytesToString]
    rfl
  · have q := run_convert_bytes_back (P := Tryd.prog) w 30 9 5 a cap (l.map UInt8.ofNat) Tryd.underlying30 Tryd.underlying5 Tryd.underlying9 (fun j hj => by
      have hj' : j < l.length := by simpa using hj
      rw [h3 j _ (List.getElem?_eq_getElem hj')]
      have := h256 _ (List.getElem_mem hj')
      simp; omega)
    rw [List.length_map] at q
    exact q

set_option maxHeartbeats 1000000 in
theorem equal_any (v x : Value) (l m : List Nat) (w : World) (hv : Byt w v l) (hx : Byt w x m) (hl : ∀ y ∈ l, y < 256) (hm : ∀ y ∈ m, y < 256) :
    Calls Tryd.prog 16 #[v, x] w fun e w' => e = .returned (.bool ((strOf l).toList == (strOf m).toList)) ∧ w = w' := by
  have c1 := byt_convert hv hl
  have c2 := byt_convert hx hm
  obtain ⟨a1, cap1, rfl⟩ := byt_shape hv
  obtain ⟨a2, cap2, rfl⟩ := byt_shape hx
  clear hv hx hl hm
  go_enter Tryd.func16, Tryd.ntmps16
  go_wp2
  go_ret
  exact ⟨rfl, rfl⟩

end Go.Proofs.YtbnfilhilgjnfaaDoor.Oc

namespace Go.Proofs.YtbnfilhilgjnfaaDoor.Oc
set_option linter.unusedVariables false
set_option maxRecDepth 100000
set_option linter.unusedSimpArgs false
open Go.ChangeShapes Go.WideShapes Go.ChangeAt Go.RowKit

set_option maxHeartbeats 2000000 in
theorem within_range (g o : Nat) (a : Option Addr) (n cap : Nat) (l : List Nat) (k : Nat) (lo hi : Int) (w : World) (hv : Byt w (.slice a n cap) l) (hp : Pl w g o (.slice a n cap) k) (hg : Low (.slice a n cap) g) (hl : n ≤ 1000000000) (hk : k + 8 ≤ n) (h256 : ∀ y ∈ l, y < 256)
    (u : Nat) (hu : numOf ((l.drop k).take 8) = u) (hbad : 9223372036854775807 < u ∨ (u : Int) < lo ∨ hi < (u : Int)) :
    Calls Tryd.prog 67 #[.pointer (some ⟨g, o, none⟩), .int .i64 lo, .int .i64 hi] w fun e w' => e = .returned (.tuple #[.int .i64 0, .int .i64 5]) ∧ Below w.heap.size w w' := by
  have hF := hp.1
  have hgz := hp.2
  have hq := Pl.fresh (w := w) (v := .slice a n cap) (k := k)
  have hb0 : Below w.heap.size w (w.alloc (.cells #[.slice a n cap, .int .i64 (k : Int)] 82)) := (Below.refl _ _).alloc (Nat.le_refl _) _
  have hv1 := hv.call hb0
  have hg1 : Low (.slice a n cap) w.heap.size := hg.mono (Nat.le_of_lt hgz)
  have hln := byt_len hv
  have HLN := hide hln
  have HU := hide hu
  have H256 := hide h256
  have hk' : k + 8 ≤ l.length := by rw [hln]; exact hk
  have hl' : l.length ≤ 1000000000 := by rw [hln]; exact hl
  clear hu h256 hln
  go_enter Tryd.func67, Tryd.ntmps67
  go_wp2_with fail
  refine (take_any w.heap.size 0 (.slice a n cap) l k 8 _ hv1 hq hg1 hl' hk').mono ?_
  rintro e w1 ⟨v1, rfl, hv2, hq1, hm1, hg2⟩
  obtain ⟨bs, hbs⟩ : ∃ bs, (l.drop k).take 8 = bs := ⟨_, rfl⟩
  have hbl : bs.length = 8 := by rw [← hbs, List.length_take, List.length_drop]; omega
  have hb256 : ∀ y ∈ bs, y < 256 := fun y hy => unhide H256 y (List.mem_of_mem_drop (List.mem_of_mem_take (by rw [hbs]; exact hy)))
  rw [hbs] at hv2 HU
  rcases hv2 with ⟨_, h0⟩ | ⟨a2, cap2, rfl, c1, c2, c3⟩
  · rw [h0] at hbl; cases hbl
  rw [hbl] at c1 ⊢
  obtain ⟨b2, off2, rfl⟩ := plain_of c3 (by rw [hbl]; decide)
  have hbelow : Below (w.heap.size) w w1 := hb0.trans hm1.1
  have hpw1 : Pl w1 g o (.slice a n cap) k := hp.below (hbelow.mono hgz)
  have HBS := hide hbs
  have HBL := hide hbl
  have HB256 := hide hb256
  have HC3 := hide c3
  clear hbs hbl hb256 c3 hv1 hg1
  have hQF := hq1.1
  have hPF := hpw1.1
  go_wp2_with fail
  go_loop [11, 26] (fun c i => ∃ j : Nat, j ≤ 8 ∧ i = .int .i64 j ∧ c = .int .u64 ((numOf (bs.take j) : Nat) : Int)) (fun _ i => 8 - (intOf i).toNat)
  case atStart => exact ⟨0, by omega, rfl, rfl⟩
  case round =>
    obtain ⟨j, hj, rfl, rfl⟩ := hrel
    have hlt0 := numOf_lt (bs.take j) (fun y hy => unhide HB256 y (List.mem_of_mem_take hy))
    rw [List.length_take, unhide HBL] at hlt0
    by_cases hlt : j < 8
    · have hlt1 : numOf (bs.take j) < 72057594037927936 := by
        have : 256 ^ min j 8 ≤ 256 ^ 7 := Nat.pow_le_pow_right (by decide) (by omega)
        have e : (256 : Nat) ^ 7 = 72057594037927936 := by decide
        omega
      obtain ⟨y, hy⟩ : ∃ y, bs[j]? = some y := ⟨_, List.getElem?_eq_getElem (by rw [unhide HBL]; exact hlt)⟩
      have hcell := unhide HC3 j y hy
      rw [add_plain] at hcell
      have hy256 := unhide HB256 y (List.mem_of_getElem? hy)
      have hnx := numOf_take hy
      clear hlt0
      generalize numOf (bs.take j) = c at *
      have hj1 := or_join c y hlt1 hy256
      have HNX := hide hnx
      clear hnx hy
      have g1 : (0 : Int) ≤ (j : Int) := by omega
      have g2 : (j : Int) < 8 := by omega
      go_wp2_with fail
      go_round
      case rel => exact ⟨j + 1, by omega, by go_num, by rw [unhide HNX]; go_num⟩
      case measure => simp [intOf]; omega
    · have hj8 : j = 8 := by omega
      subst hj8
      have e1 : bs.take 8 = bs := List.take_of_length_le (by rw [unhide HBL]; omega)
      rw [e1, unhide HU]
      clear hlt0 e1
      by_cases b1 : 9223372036854775807 < u
      · have t1 : decide ((9223372036854775807 : Int) < (u : Int)) = true := by simp; omega
        go_wp2_with fail
        go_ret2
        exact ⟨rfl, hbelow⟩
      · have t1 : decide ((9223372036854775807 : Int) < (u : Int)) = false := by simp; omega
        by_cases b2 : (u : Int) < lo
        · have t2 : decide ((u : Int) < lo) = true := by simp; omega
          go_wp2_with fail
          go_ret2
          exact ⟨rfl, hbelow⟩
        · have t2 : decide ((u : Int) < lo) = false := by simp; omega
          have t3 : decide (hi < (u : Int)) = true := by simp; omega
          go_wp2_with fail
          go_ret2
          exact ⟨rfl, hbelow⟩

set_option maxHeartbeats 1000000 in
theorem within_short (g o : Nat) (a : Option Addr) (n cap : Nat) (k : Nat) (lo hi : Int) (w : World) (hp : Pl w g o (.slice a n cap) k) (hl : n ≤ 1000000000) (hk : k ≤ n) (hs : n < k + 8) :
    Calls Tryd.prog 67 #[.pointer (some ⟨g, o, none⟩), .int .i64 lo, .int .i64 hi] w fun e w' => e = .returned (.tuple #[.int .i64 0, .int .i64 2]) ∧ Below w.heap.size w w' := by
  have hF := hp.1
  have hq := Pl.fresh (w := w) (v := .slice a n cap) (k := k)
  have hb0 : Below w.heap.size w (w.alloc (.cells #[.slice a n cap, .int .i64 (k : Int)] 82)) := (Below.refl _ _).alloc (Nat.le_refl _) _
  go_enter Tryd.func67, Tryd.ntmps67
  go_wp2_with fail
  refine (take_short w.heap.size 0 a n cap k 8 _ hq hk (by unfold maxLen; omega) (by omega)).mono ?_
  rintro e w1 ⟨rfl, d, rfl⟩
  go_wp2_with fail
  go_ret2
  exact ⟨rfl, hb0.trans (Joins.below_draws _ _ d)⟩

/-- why no bytes can be read -/
def BadBytes (l : List Nat) (k : Nat) (most e0 : Int) : Prop :=
  (l.length < k + 8 ∧ e0 = 2) ∨ (k + 8 ≤ l.length ∧ 9223372036854775807 < numOf ((l.drop k).take 8) ∧ e0 = 5) ∨
  (k + 8 ≤ l.length ∧ numOf ((l.drop k).take 8) ≤ 9223372036854775807 ∧ max most 0 < (numOf ((l.drop k).take 8) : Int) ∧ e0 = 4) ∨
  (k + 8 ≤ l.length ∧ numOf ((l.drop k).take 8) ≤ 9223372036854775807 ∧ (numOf ((l.drop k).take 8) : Int) ≤ max most 0 ∧ l.length < k + 8 + numOf ((l.drop k).take 8) ∧ e0 = 2)

set_option maxHeartbeats 2000000 in
theorem bytes_bad (g o : Nat) (a : Option Addr) (n cap : Nat) (l : List Nat) (k : Nat) (most e0 : Int) (w : World) (hv : Byt w (.slice a n cap) l) (hp : Pl w g o (.slice a n cap) k) (hg : Low (.slice a n cap) g) (hl : n ≤ 1000000000) (hkn : k ≤ n) (h256 : ∀ y ∈ l, y < 256)
    (hbad : BadBytes l k most e0) :
    Calls Tryd.prog 68 #[.pointer (some ⟨g, o, none⟩), .int .i64 most] w fun e w' => e = .returned (.tuple #[.slice none 0 0, .int .i64 e0]) ∧ Below w.heap.size w w' := by
  have hF := hp.1
  have hgz := hp.2
  have hq := Pl.fresh (w := w) (v := .slice a n cap) (k := k)
  have hb0 : Below w.heap.size w (w.alloc (.cells #[.slice a n cap, .int .i64 (k : Int)] 82)) := (Below.refl _ _).alloc (Nat.le_refl _) _
  have hv1 := hv.call hb0
  have hg1 : Low (.slice a n cap) w.heap.size := hg.mono (Nat.le_of_lt hgz)
  have hln := byt_len hv
  obtain ⟨m, hm⟩ : ∃ m, numOf ((l.drop k).take 8) = m := ⟨_, rfl⟩
  unfold BadBytes at hbad
  rw [hm, hln] at hbad
  have HM := hide hm
  have H256 := hide h256
  clear hm h256 hln
  rcases hbad with ⟨h1, rfl⟩ | ⟨h1, h2, rfl⟩ | ⟨h1, h2, h3, rfl⟩ | ⟨h1, h2, h3, h4, rfl⟩
  · go_enter Tryd.func68, Tryd.ntmps68
    go_wp2_with fail
    refine (within_short w.heap.size 0 a n cap k 0 9223372036854775807 _ hq hl hkn h1).mono ?_
    rintro e w1 ⟨rfl, hb1⟩
    go_wp2_with fail
    go_ret2
    exact ⟨rfl, hb0.trans (hb1.mono hb0.size)⟩
  · go_enter Tryd.func68, Tryd.ntmps68
    go_wp2_with fail
    refine (within_range w.heap.size 0 a n cap l k 0 9223372036854775807 _ hv1 hq hg1 hl h1 (unhide H256) m (unhide HM) (.inl h2)).mono ?_
    rintro e w1 ⟨rfl, hb1⟩
    go_wp2_with fail
    go_ret2
    exact ⟨rfl, hb0.trans (hb1.mono hb0.size)⟩
  · go_enter Tryd.func68, Tryd.ntmps68
    go_wp2_with fail
    refine (within_any w.heap.size 0 a n cap l k 0 9223372036854775807 _ hv1 hq hg1 hl h1 (unhide H256) m (unhide HM) ⟨by omega, by omega⟩ h2).mono ?_
    rintro e w1 ⟨rfl, hq1, hm1⟩
    have t1 : decide (max most 0 < (m : Int)) = true := by simp; omega
    have hB : Below w.heap.size w w1 := hb0.trans hm1.1
    go_wp2_with fail
    all_goals go_ret2
    all_goals exact ⟨rfl, hB⟩
  · go_enter Tryd.func68, Tryd.ntmps68
    go_wp2_with fail
    refine (within_any w.heap.size 0 a n cap l k 0 9223372036854775807 _ hv1 hq hg1 hl h1 (unhide H256) m (unhide HM) ⟨by omega, by omega⟩ h2).mono ?_
    rintro e w1 ⟨rfl, hq1, hm1⟩
    have t1 : decide (max most 0 < (m : Int)) = false := by simp; omega
    have hB : Below w.heap.size w w1 := hb0.trans hm1.1
    go_wp2_with fail
    all_goals (
      refine (take_short w.heap.size 0 a n cap (k + 8) (m : Int) _ hq1 h1 (by unfold maxLen; omega) (by omega)).mono ?_
      rintro e w2 ⟨rfl, d, rfl⟩
      go_wp2_with fail
      go_ret2
      exact ⟨rfl, hB.trans (Joins.below_draws _ _ d)⟩)
end Go.Proofs.YtbnfilhilgjnfaaDoor.Oc

namespace Go.Proofs.YtbnfilhilgjnfaaDoor.Oc
set_option linter.unusedVariables false
set_option maxRecDepth 100000
set_option linter.unusedSimpArgs false
open Go.ChangeShapes Go.WideShapes Go.ChangeAt Go.RowKit Go.Joins

/-- why no number can be read -/
def BadNum (l : List Nat) (k : Nat) (lo hi e0 : Int) : Prop :=
  (l.length < k + 8 ∧ e0 = 2) ∨ (k + 8 ≤ l.length ∧ (9223372036854775807 < numOf ((l.drop k).take 8) ∨ (numOf ((l.drop k).take 8) : Int) < lo ∨ hi < (numOf ((l.drop k).take 8) : Int)) ∧ e0 = 5)
theorem badNum_pos {l : List Nat} {k : Nat} {lo hi e0 : Int} (h : BadNum l k lo hi e0) : e0 ≠ 0 := by
  rcases h with ⟨_, rfl⟩ | ⟨_, _, rfl⟩ <;> decide
theorem within_bad (g o : Nat) (a : Option Addr) (n cap : Nat) (l : List Nat) (k : Nat) (lo hi e0 : Int) (w : World) (hv : Byt w (.slice a n cap) l) (hp : Pl w g o (.slice a n cap) k) (hg : Low (.slice a n cap) g) (hl : n ≤ 1000000000) (hkn : k ≤ n) (h256 : ∀ y ∈ l, y < 256)
    (hbad : BadNum l k lo hi e0) :
    Calls Tryd.prog 67 #[.pointer (some ⟨g, o, none⟩), .int .i64 lo, .int .i64 hi] w fun e w' => e = .returned (.tuple #[.int .i64 0, .int .i64 e0]) ∧ Below w.heap.size w w' := by
  have hln := byt_len hv
  rcases hbad with ⟨h1, rfl⟩ | ⟨h1, h2, rfl⟩
  · exact within_short g o a n cap k lo hi w hp hl hkn (by omega)
  · exact within_range g o a n cap l k lo hi w hv hp hg hl (by omega) h256 _ rfl h2

set_option maxHeartbeats 1000000 in
theorem Within_bad (g : Nat) (a : Option Addr) (n cap : Nat) (l : List Nat) (k : Nat) (lo hi e0 : Int) (w : World) (hv : Byt w (.slice a n cap) l) (hr : Rdr w g (.slice a n cap) k 0) (hg : Low (.slice a n cap) g) (hl : n ≤ 1000000000) (hkn : k ≤ n) (h256 : ∀ y ∈ l, y < 256)
    (hbad : BadNum l k lo hi e0) :
    Calls Tryd.prog 54 #[.pointer (some ⟨g, 0, none⟩), .int .i64 lo, .int .i64 hi] w fun e w' => e = .returned (.int .i64 0) ∧ Rdr w' g (.slice a n cap) k e0 ∧ Below g w w' := by
  have HB := hide hbad
  have H256 := hide h256
  clear hbad h256
  go_enter Tryd.func54, Tryd.ntmps54
  go_wp2_with fail
  refine (err_any g _ k 0 _ hr).mono ?_
  rintro e w0 ⟨rfl, rfl⟩
  go_wp2_with fail
  refine (within_bad g 0 a n cap l k lo hi e0 _ hv hr.1 hg hl hkn (unhide H256) (unhide HB)).mono ?_
  rintro e w1 ⟨rfl, hb1⟩
  have hr1 := hr.below (hb1.mono hr.1.2)
  have hc := hr1.2
  have hz : g ≤ w.heap.size := Nat.le_of_lt hr.1.2
  go_wp2_with fail
  go_ret
  refine ⟨rfl, hr1.err e0, (hb1.mono hz).setCell (Nat.le_refl g) _⟩

set_option maxHeartbeats 1000000 in
theorem Number_bad (g : Nat) (a : Option Addr) (n cap : Nat) (l : List Nat) (k : Nat) (e0 : Int) (w : World) (hv : Byt w (.slice a n cap) l) (hr : Rdr w g (.slice a n cap) k 0) (hg : Low (.slice a n cap) g) (hl : n ≤ 1000000000) (hkn : k ≤ n) (h256 : ∀ y ∈ l, y < 256)
    (hbad : BadNum l k 0 9223372036854775807 e0) :
    Calls Tryd.prog 37 #[.pointer (some ⟨g, 0, none⟩)] w fun e w' => e = .returned (.int .i64 0) ∧ Rdr w' g (.slice a n cap) k e0 ∧ Below g w w' := by
  have HB := hide hbad
  have H256 := hide h256
  clear hbad h256
  go_enter Tryd.func37, Tryd.ntmps37
  go_wp2_with fail
  refine (Within_bad g a n cap l k 0 9223372036854775807 e0 _ hv hr hg hl hkn (unhide H256) (unhide HB)).mono ?_
  rintro e w0 ⟨rfl, h1, h2⟩
  go_wp2
  go_ret
  exact ⟨rfl, h1, h2⟩

end Go.Proofs.YtbnfilhilgjnfaaDoor.Oc

namespace Go.Proofs.YtbnfilhilgjnfaaDoor.Oc
set_option linter.unusedVariables false
set_option maxRecDepth 100000
set_option linter.unusedSimpArgs false
open Go.ChangeShapes Go.WideShapes Go.ChangeAt Go.RowKit Go.Shelf

set_option maxHeartbeats 8000000 in
set_option maxRecDepth 100000 in
theorem word_any (b off n cap : Nat) (x0 x1 x2 x3 x4 x5 x6 x7 : UInt8) (w : World) (hn : 8 ≤ n)
    (c0 : w.cell? ⟨b, off, none⟩ = some (.int .u8 (x0.toNat : Int)))
    (c1 : w.cell? ⟨b, off + 1, none⟩ = some (.int .u8 (x1.toNat : Int)))
    (c2 : w.cell? ⟨b, off + 2, none⟩ = some (.int .u8 (x2.toNat : Int)))
    (c3 : w.cell? ⟨b, off + 3, none⟩ = some (.int .u8 (x3.toNat : Int)))
    (c4 : w.cell? ⟨b, off + 4, none⟩ = some (.int .u8 (x4.toNat : Int)))
    (c5 : w.cell? ⟨b, off + 5, none⟩ = some (.int .u8 (x5.toNat : Int)))
    (c6 : w.cell? ⟨b, off + 6, none⟩ = some (.int .u8 (x6.toNat : Int)))
    (c7 : w.cell? ⟨b, off + 7, none⟩ = some (.int .u8 (x7.toNat : Int)))
    : Calls Tryd.prog 89 #[.slice (some ⟨b, off, none⟩) n cap] w fun e w' => e = .returned (.int .u64 (Lib.leNat [x0, x1, x2, x3, x4, x5, x6, x7])) ∧ ∃ q, w' = w.drewN q := by
  have h0 : x0.toNat < 256 := x0.toNat_lt
  have q0 : (0 : Int) < (n : Int) := by omega
  have p0 : 0 < n := by omega
  have h1 : x1.toNat < 256 := x1.toNat_lt
  have q1 : (1 : Int) < (n : Int) := by omega
  have p1 : 1 < n := by omega
  have h2 : x2.toNat < 256 := x2.toNat_lt
  have q2 : (2 : Int) < (n : Int) := by omega
  have p2 : 2 < n := by omega
  have h3 : x3.toNat < 256 := x3.toNat_lt
  have q3 : (3 : Int) < (n : Int) := by omega
  have p3 : 3 < n := by omega
  have h4 : x4.toNat < 256 := x4.toNat_lt
  have q4 : (4 : Int) < (n : Int) := by omega
  have p4 : 4 < n := by omega
  have h5 : x5.toNat < 256 := x5.toNat_lt
  have q5 : (5 : Int) < (n : Int) := by omega
  have p5 : 5 < n := by omega
  have h6 : x6.toNat < 256 := x6.toNat_lt
  have q6 : (6 : Int) < (n : Int) := by omega
  have p6 : 6 < n := by omega
  have h7 : x7.toNat < 256 := x7.toNat_lt
  have q7 : (7 : Int) < (n : Int) := by omega
  have p7 : 7 < n := by omega
  have hv : ((Lib.leNat [x0, x1, x2, x3, x4, x5, x6, x7] : Nat) : Int) = (x0.toNat : Int) + (x1.toNat : Int) * 256 + (x2.toNat : Int) * 65536 + (x3.toNat : Int) * 16777216 + (x4.toNat : Int) * 4294967296 + (x5.toNat : Int) * 1099511627776 + (x6.toNat : Int) * 281474976710656 + (x7.toNat : Int) * 72057594037927936 := by
    simp only [Lib.leNat]
    push_cast
    omega
  have mixed : Tryd.prog.follows Departure.mixedOrders = true := by kernel_rfl
  go_enter Tryd.func89, Tryd.ntmps89
  go_wp2
  go_quiet_o (fail)
  go_wp2
  go_ret
  refine ⟨?_, _, rfl⟩
  simp (disch := omega) only [u64_wrap_id, u64_or8, u64_or16, u64_or24, u64_or32, u64_or40, u64_or48, u64_or56]
  rw [hv]
  rfl
end Go.Proofs.YtbnfilhilgjnfaaDoor.Oc
