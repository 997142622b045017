/- Words of bytes, and bytes of words. -/
import Derived.Test.YtbnfilhilgjnfaaDoorMix
namespace Go.Proofs.YtbnfilhilgjnfaaDoor
set_option linter.unusedVariables false
set_option linter.unusedSimpArgs false
open Go.ChangeShapes Go.WideShapes Go.ChangeAt Go.RowKit

def word4 (b : List Nat) (i : Nat) : Nat := b.getD (4 * i) 0 + 256 * b.getD (4 * i + 1) 0 + 65536 * b.getD (4 * i + 2) 0 + 16777216 * b.getD (4 * i + 3) 0
def wordsOf (b : List Nat) (k : Nat) : List Nat := (List.range k).map (word4 b)
theorem wordsOf_len (b : List Nat) (k : Nat) : (wordsOf b k).length = k := by simp [wordsOf]
theorem wordsOf_succ (b : List Nat) (k : Nat) : wordsOf b (k + 1) = wordsOf b k ++ [word4 b k] := by simp [wordsOf, List.range_succ]
def U8 (l : List Nat) : Prop := ∀ y ∈ l, y < 256
theorem U8.getD {l : List Nat} (h : U8 l) (i : Nat) : l.getD i 0 < 256 := by
  rw [List.getD_eq_getElem?_getD]
  rcases Nat.lt_or_ge i l.length with hi | hi
  · rw [List.getElem?_eq_getElem hi]; exact h _ (List.getElem_mem hi)
  · rw [List.getElem?_eq_none hi]; decide
theorem word4_lt {b : List Nat} (h : U8 b) (i : Nat) : word4 b i < 4294967296 := by
  have h0 := h.getD (4 * i)
  have h1 := h.getD (4 * i + 1)
  have h2 := h.getD (4 * i + 2)
  have h3 := h.getD (4 * i + 3)
  unfold word4
  omega
theorem wordsOf_32 {b : List Nat} (h : U8 b) (k : Nat) : W32 (wordsOf b k) := by
  intro y hy
  simp only [wordsOf, List.mem_map] at hy
  obtain ⟨i, _, rfl⟩ := hy
  exact word4_lt h i

/-- these cells in the place of those that stood there -/
def putAt (cs : List Value) (o : Nat) (l : List Value) : List Value := cs.take o ++ l ++ cs.drop (o + l.length)
theorem putAt_nil (cs : List Value) (o : Nat) : putAt cs o [] = cs := by simp [putAt]
theorem putAt_len (cs : List Value) (o : Nat) (l : List Value) (h : o + l.length ≤ cs.length) : (putAt cs o l).length = cs.length := by
  simp [putAt]; omega
theorem putAt_set (cs : List Value) (o : Nat) (l : List Value) (v : Value) (h : o + l.length < cs.length) : (putAt cs o l).set (o + l.length) v = putAt cs o (l ++ [v]) := by
  have h1 : (cs.take o ++ l).length = o + l.length := by simp; omega
  have h2 : cs.drop (o + l.length) = cs[o + l.length] :: cs.drop (o + l.length + 1) := List.drop_eq_getElem_cons h
  rw [putAt, h2, List.set_append_right _ _ (by omega), h1]
  simp [putAt, Nat.add_assoc]
theorem putAt_whole (cs l : List Value) (h : cs.length = l.length) : putAt cs 0 l = l := by
  simp [putAt, h]

theorem or_add (a b i p q : Nat) (x : Int) (hp : 2 ^ i = p) (hb : b < p) (hb' : b < 4294967296) (ha : p * a < 4294967296) (hx : x = ((p * a : Nat) : Int)) (hq : q = b + p * a) : bits .or .u32 (b : Int) x = (q : Int) := by
  subst hp hx hq
  rw [u32_or_nat _ _ hb' ha, Nat.or_comm, ← Nat.two_pow_add_eq_or_of_lt hb a, Nat.add_comm]

set_option maxRecDepth 100000 in
set_option maxHeartbeats 4000000 in
theorem read_any (gt ot n ct gb ob cb N : Nat) (tt : TypeId) (cs : List Value) (b : List Nat) (w : World) (hr : RowAt w gt tt cs) (hn : ot + n ≤ cs.length) (hgb : ¬ gb = gt) (h8 : U8 b) (hn16 : n ≤ 16) (hcn : n ≤ ct) (hN : N = 4 * n) (hcb : N ≤ cb)
    (hb : ∀ i, i < 4 * n → w.cell? ⟨gb, ob + i, none⟩ = some (.int .u8 ((b.getD i 0 : Nat) : Int))) :
    Calls Tryd.prog 87 #[.slice (some ⟨gt, ot, none⟩) n ct, .slice (some ⟨gb, ob, none⟩) N cb] w
      fun e w' => e = .returned (.tuple #[]) ∧ RowAt w' gt tt (putAt cs ot (u32v (wordsOf b n))) ∧ Only (· = gt) w w' := by
  have HB := hide hb
  have HR := hide hr
  have hd4 : (N : Int) / 4 = (n : Int) := by omega
  have HN := hide hN
  clear hb hr hN
  go_enter Tryd.func87, Tryd.ntmps87
  go_wp2_with fail
  go_loopw [12] (fun s wr => ∃ k : Nat, k ≤ n ∧ s = .int .i64 (k : Int) ∧ Hid (RowAt wr gt tt (putAt cs ot (u32v (wordsOf b k))) ∧ Only (· = gt) w wr)) (fun s _ => (n - intOf s).toNat)
  case atStart => exact ⟨0, by omega, rfl, by simpa [wordsOf, u32v, putAt_nil] using unhide HR, Only.refl _ _⟩
  case round =>
    obtain ⟨k, hk, rfl, HC⟩ := hrel
    by_cases hlt : k < n
    · have y0 := (unhide HC).2.cell (by exact hgb) (unhide HB (4 * k) (by have := unhide HN; omega))
      have y1 := (unhide HC).2.cell (by exact hgb) (unhide HB (4 * k + 1) (by have := unhide HN; omega))
      have y2 := (unhide HC).2.cell (by exact hgb) (unhide HB (4 * k + 2) (by have := unhide HN; omega))
      have y3 := (unhide HC).2.cell (by exact hgb) (unhide HB (4 * k + 3) (by have := unhide HN; omega))
      have l0 := h8.getD (4 * k)
      have l1 := h8.getD (4 * k + 1)
      have l2 := h8.getD (4 * k + 2)
      have l3 := h8.getD (4 * k + 3)
      have HW : Hid (word4 b k = b.getD (4 * k) 0 + 256 * b.getD (4 * k + 1) 0 + 65536 * b.getD (4 * k + 2) 0 + 16777216 * b.getD (4 * k + 3) 0) := hide rfl
      generalize b.getD (4 * k) 0 = x0 at *
      generalize b.getD (4 * k + 1) 0 = x1 at *
      generalize b.getD (4 * k + 2) 0 = x2 at *
      generalize b.getD (4 * k + 3) 0 = x3 at *
      obtain ⟨s1, hs1⟩ : ∃ s, s = x0 + 256 * x1 := ⟨_, rfl⟩
      obtain ⟨s2, hs2⟩ : ∃ s, s = s1 + 65536 * x2 := ⟨_, rfl⟩
      obtain ⟨s3, hs3⟩ : ∃ s, s = s2 + 16777216 * x3 := ⟨_, rfl⟩
      have e1 : bits .or .u32 (x0 : Int) ((x1 : Int) * 256) = (s1 : Int) := or_add x1 x0 8 256 s1 _ (by decide) (by omega) (by omega) (by omega) (by omega) hs1
      have e2 : bits .or .u32 (s1 : Int) ((x2 : Int) * 65536) = (s2 : Int) := or_add x2 s1 16 65536 s2 _ (by decide) (by omega) (by omega) (by omega) (by omega) hs2
      have e3 : bits .or .u32 (s2 : Int) ((x3 : Int) * 16777216) = (s3 : Int) := or_add x3 s2 24 16777216 s3 _ (by decide) (by omega) (by omega) (by omega) (by omega) hs3
      have HS : Hid (word4 b k = s3) := hide (by rw [unhide HW]; omega)
      clear hs1 hs2 hs3 HW
      have hlen : (putAt cs ot (u32v (wordsOf b k))).length = cs.length := putAt_len _ _ _ (by rw [u32v_len, wordsOf_len]; omega)
      have c0 := (unhide HC).1.cell (ot + k)
      have f0 := (unhide HC).1.frozen (ot + k)
      obtain ⟨v0, hv0⟩ : ∃ v, (putAt cs ot (u32v (wordsOf b k)))[ot + k]? = some v := ⟨_, List.getElem?_eq_getElem (by rw [hlen]; omega)⟩
      rw [hv0] at c0
      clear hv0 hlen
      have hkn : (k : Int) < (n : Int) := by omega
      have hN := unhide HN
      obtain ⟨K, hK⟩ : ∃ K, K = 4 * k := ⟨_, rfl⟩
      have hKI : 4 * (k : Int) = (K : Int) := by omega
      rw [← hK] at y0 y1 y2 y3
      rw [← Nat.add_assoc] at y1 y2 y3
      have hKN : K + 4 ≤ N := by omega
      have hKc : ¬ cb = K := by omega
      have hKc2 : ¬ cb - K < 4 := by omega
      have hKc3 : ¬ cb < K := by omega
      have hKc4 : ¬ N < K := by omega
      clear hK hN hd4 hk hlt
      go_wp2_with fail
      refine wp_region_tail 24 (by kernel_rfl) (by kernel_rfl) ?_
      simp only [List.take_succ_cons, List.take_zero, List.drop_succ_cons, List.drop_zero]
      repeat (go_big_quiet_step (fail))
      refine wpQuiet_nil ?_
      clear y0 y1 y2 y3 e1 e2 e3 l0 l1 l2 l3
      go_wp2_with fail
      go_roundw
      case rel =>
        refine ⟨k + 1, by omega, by go_num, hide ⟨?_, ?_⟩⟩
        · have h1 := ((unhide HC).1.drew).set (ot + k) (.int .u32 (s3 : Int))
          have h2 := putAt_set cs ot (u32v (wordsOf b k)) (.int .u32 (s3 : Int)) (by rw [u32v_len, wordsOf_len]; omega)
          rw [u32v_len, wordsOf_len] at h2
          rw [h2] at h1
          have h3 : u32v (wordsOf b k) ++ [.int .u32 (s3 : Int)] = u32v (wordsOf b (k + 1)) := by rw [wordsOf_succ, unhide HS]; simp [u32v]
          rw [h3] at h1
          exact h1
        · exact (unhide HC).2.drew.set gt (ot + k) _ rfl
      case measure => first | (simp [intOf]; done) | (simp [intOf]; omega)
    · obtain rfl : k = n := by omega
      go_wp2_with fail
      go_end0
      exact ⟨rfl, (unhide HC).1, (unhide HC).2⟩
end Go.Proofs.YtbnfilhilgjnfaaDoor
