/- Bytes of words. -/
import Derived.Test.YtbnfilhilgjnfaaDoorRead
namespace Go.Proofs.YtbnfilhilgjnfaaDoor
set_option linter.unusedVariables false
set_option linter.unusedSimpArgs false
open Go.ChangeShapes Go.WideShapes Go.ChangeAt Go.RowKit

def bytes4 (x : Nat) : List Nat := [x % 256, x / 256 % 256, x / 65536 % 256, x / 16777216 % 256]
def bytesOf (l : List Nat) : Nat → List Nat
  | 0 => []
  | k + 1 => bytesOf l k ++ bytes4 (l.getD k 0)
theorem bytesOf_len (l : List Nat) : ∀ k, (bytesOf l k).length = 4 * k
  | 0 => rfl
  | k + 1 => by rw [bytesOf, List.length_append, bytesOf_len]; simp [bytes4]; omega
theorem bytesOf_8 (l : List Nat) : ∀ k, U8 (bytesOf l k)
  | 0 => by intro y hy; cases hy
  | k + 1 => by
    intro y hy
    rw [bytesOf, List.mem_append] at hy
    rcases hy with hy | hy
    · exact bytesOf_8 l k y hy
    · simp only [bytes4, List.mem_cons, List.not_mem_nil, or_false] at hy
      omega

theorem put4 (cs : List Value) (o : Nat) (l : List Value) (n : Nat) (a b c d : Value) (hl : l.length = n) (h : o + n + 3 < cs.length) :
    ((((putAt cs o l).set (o + n) a).set (o + n + 1) b).set (o + n + 2) c).set (o + n + 3) d = putAt cs o (l ++ [a, b, c, d]) := by
  subst hl
  have h1 := putAt_set cs o l a (by omega)
  have h2 := putAt_set cs o (l ++ [a]) b (by simp; omega)
  have h3 := putAt_set cs o (l ++ [a] ++ [b]) c (by simp; omega)
  have h4 := putAt_set cs o (l ++ [a] ++ [b] ++ [c]) d (by simp; omega)
  simp only [List.length_append, List.length_cons, List.length_nil, Nat.zero_add, ← Nat.add_assoc] at h2 h3 h4
  rw [h1, h2, show o + l.length + 2 = o + l.length + 1 + 1 by omega, h3, show o + l.length + 3 = o + l.length + 1 + 1 + 1 by omega, h4]
  simp

set_option maxRecDepth 100000 in
set_option maxHeartbeats 4000000 in
theorem write_any (gt ot n ct gl ol cl N : Nat) (tt : TypeId) (cs : List Value) (l : List Nat) (w : World) (hr : RowAt w gt tt cs) (hn : ot + N ≤ cs.length) (hgl : ¬ gl = gt) (h32 : W32 l) (hn16 : n ≤ 16) (hcn : n ≤ cl) (hN : N = 4 * n) (hct : N ≤ ct)
    (hl : ∀ i, i < n → w.cell? ⟨gl, ol + i, none⟩ = some (.int .u32 ((l.getD i 0 : Nat) : Int))) :
    Calls Tryd.prog 86 #[.slice (some ⟨gt, ot, none⟩) N ct, .slice (some ⟨gl, ol, none⟩) n cl] w
      fun e w' => e = .returned (.tuple #[]) ∧ RowAt w' gt tt (putAt cs ot (bv (bytesOf l n))) ∧ Only (· = gt) w w' := by
  have HL := hide hl
  have HR := hide hr
  have hd4 : (N : Int) / 4 = (n : Int) := by omega
  have HN := hide hN
  clear hl hr hN
  go_enter Tryd.func86, Tryd.ntmps86
  go_wp2_with fail
  go_loopw [12] (fun s wr => ∃ k : Nat, k ≤ n ∧ s = .int .i64 (k : Int) ∧ Hid (RowAt wr gt tt (putAt cs ot (bv (bytesOf l k))) ∧ Only (· = gt) w wr)) (fun s _ => (n - intOf s).toNat)
  case atStart => exact ⟨0, by omega, rfl, by simpa [bytesOf, bv, putAt_nil] using unhide HR, Only.refl _ _⟩
  case round =>
    obtain ⟨k, hk, rfl, HC⟩ := hrel
    by_cases hlt : k < n
    · have hN := unhide HN
      have y0 := (unhide HC).2.cell (by exact hgl) (unhide HL k (by omega))
      have l0 := h32.getD k
      have HW : Hid (bytesOf l (k + 1) = bytesOf l k ++ bytes4 (l.getD k 0)) := hide rfl
      generalize l.getD k 0 = x at *
      obtain ⟨K, hK⟩ : ∃ K, K = 4 * k := ⟨_, rfl⟩
      have hKI : 4 * (k : Int) = (K : Int) := by omega
      have hlen : (putAt cs ot (bv (bytesOf l k))).length = cs.length := putAt_len _ _ _ (by rw [bv_len, bytesOf_len]; omega)
      have HB : Hid ((bytesOf l k).length = K) := hide (by rw [bytesOf_len, hK])
      obtain ⟨b0, hb0⟩ : ∃ b, b = x % 256 := ⟨_, rfl⟩
      obtain ⟨b1, hb1⟩ : ∃ b, b = x / 256 % 256 := ⟨_, rfl⟩
      obtain ⟨b2, hb2⟩ : ∃ b, b = x / 65536 % 256 := ⟨_, rfl⟩
      obtain ⟨b3, hb3⟩ : ∃ b, b = x / 16777216 % 256 := ⟨_, rfl⟩
      have e0 : (x : Int) % 256 = (b0 : Int) := by omega
      have e1 : (x : Int) / 256 % 256 = (b1 : Int) := by omega
      have e2 : (x : Int) / 65536 % 256 = (b2 : Int) := by omega
      have e3 : (x : Int) / 16777216 % 256 = (b3 : Int) := by omega
      have HX : Hid (bytes4 x = [b0, b1, b2, b3]) := hide (by rw [bytes4, hb0, hb1, hb2, hb3])
      clear hb0 hb1 hb2 hb3
      obtain ⟨v0, c0⟩ : ∃ v, wr.cell? ⟨gt, ot + K, none⟩ = some v := ⟨_, ((unhide HC).1.cell (ot + K)).trans (List.getElem?_eq_getElem (by rw [hlen]; omega))⟩
      obtain ⟨v1, c1⟩ : ∃ v, wr.cell? ⟨gt, ot + K + 1, none⟩ = some v := ⟨_, ((unhide HC).1.cell (ot + K + 1)).trans (List.getElem?_eq_getElem (by rw [hlen]; omega))⟩
      obtain ⟨v2, c2⟩ : ∃ v, wr.cell? ⟨gt, ot + K + 2, none⟩ = some v := ⟨_, ((unhide HC).1.cell (ot + K + 2)).trans (List.getElem?_eq_getElem (by rw [hlen]; omega))⟩
      obtain ⟨v3, c3⟩ : ∃ v, wr.cell? ⟨gt, ot + K + 3, none⟩ = some v := ⟨_, ((unhide HC).1.cell (ot + K + 3)).trans (List.getElem?_eq_getElem (by rw [hlen]; omega))⟩
      have f0 := (unhide HC).1.frozen (ot + K)
      have f1 := (unhide HC).1.frozen (ot + K + 1)
      have f2 := (unhide HC).1.frozen (ot + K + 2)
      have f3 := (unhide HC).1.frozen (ot + K + 3)
      have HH : Hid (ot + K + 3 < cs.length) := hide (by omega)
      have hkn : (k : Int) < (n : Int) := by omega
      have hKN : K + 4 ≤ N := by omega
      have hKc : ¬ ct = K := by omega
      have hKc2 : ¬ ct - K < 4 := by omega
      have hKc3 : ¬ ct < K := by omega
      have hKc4 : ¬ N < K := by omega
      clear hK hN hd4 hk hlt hlen l0
      have hgl' : ¬ gt = gl := fun e => hgl e.symm
      go_wp2_with fail
      go_region
      go_wp2_with fail
      go_roundw
      case rel =>
        refine ⟨k + 1, by omega, by go_num, hide ⟨?_, ?_⟩⟩
        · have h1 := (((unhide HC).1.set (ot + K) (.int .u8 (b0 : Int))).set (ot + K + 1) (.int .u8 (b1 : Int))).set (ot + K + 2) (.int .u8 (b2 : Int))
          have h2 := h1.set (ot + K + 3) (.int .u8 (b3 : Int))
          rw [put4 cs ot (bv (bytesOf l k)) K _ _ _ _ (by rw [bv_len, unhide HB]) (unhide HH)] at h2
          have h3 : bv (bytesOf l k) ++ [.int .u8 (b0 : Int), .int .u8 (b1 : Int), .int .u8 (b2 : Int), .int .u8 (b3 : Int)] = bv (bytesOf l (k + 1)) := by rw [unhide HW, unhide HX]; simp [bv]
          rw [h3] at h2
          exact h2.drew
        · exact (((((unhide HC).2.set gt (ot + K) _ rfl).set gt (ot + K + 1) _ rfl).set gt (ot + K + 2) _ rfl).set gt (ot + K + 3) _ rfl).drew
      case measure => first | (simp [intOf]; done) | (simp [intOf]; omega)
    · obtain rfl : k = n := by omega
      go_wp2_with fail
      go_end0
      exact ⟨rfl, (unhide HC).1, (unhide HC).2⟩
end Go.Proofs.YtbnfilhilgjnfaaDoor
