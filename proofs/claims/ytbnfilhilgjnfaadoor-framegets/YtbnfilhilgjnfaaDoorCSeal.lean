/- Turn and Seal. -/
import Derived.Test.YtbnfilhilgjnfaaDoorCTag
import Derived.Test.YtbnfilhilgjnfaaDoorConcat
namespace Go.Proofs.YtbnfilhilgjnfaaDoor
set_option linter.unusedVariables false
set_option linter.unusedSimpArgs false
open Go.ChangeShapes Go.WideShapes Go.ChangeAt Go.RowKit Go.Joins

def Lay (w : World) : Prop := Tabs w ∧ CTab w
theorem Lay.below {w w' : World} (h : Lay w) (hb : Below w.heap.size w w') : Lay w' := ⟨h.1.below hb, Tab.below h.2 hb (Tab.lt h.2)⟩
/-- what a turned slice is -/
def tkL (key : List Nat) (once : Nat) (b : List Nat) : List Nat := turnL (startL (key.take 32) once) b
theorem tkL_len (key : List Nat) (once : Nat) (b : List Nat) : (tkL key once b).length = b.length := turnL_len _ _
theorem tkL_8 (key : List Nat) (once : Nat) {b : List Nat} (h : U8 b) : U8 (tkL key once b) := turnL_8 h
def sealL (key : List Nat) (once : Nat) (head b : List Nat) : List Nat := tkL key once b ++ tagL key once head (tkL key once b)
theorem sealL_len (key : List Nat) (once : Nat) (head b : List Nat) : (sealL key once head b).length = b.length + 16 := by rw [sealL, List.length_append, tkL_len, tagL_len]
/-- a row's first cells, as a slice of its own -/
theorem own_row {w : World} {g B n more : Nat} {T : List Nat} (h : RowAt w g 5 (bv (T ++ List.replicate more 0))) (hT : T.length = n) (hB : B ≤ g) (hm : n + more ≤ maxLen) : w.ownsRow B 5 1 (.slice (some ⟨g, 0, none⟩) n (n + more)) n (bv T) := by
  refine ⟨by rw [bv_len, hT]; omega, .inr ⟨g, n + more, _, rfl, hB, h, by omega, hm, by simp [bv_len, hT], ?_⟩⟩
  have h1 : (bv T).length = n * 1 := by rw [bv_len, hT]; omega
  rw [bv_append, List.toList_toArray, ← h1, List.take_left]

set_option maxHeartbeats 1000000 in
theorem seal_not (ka : Option Addr) (kn kc : Nat) (hv uv : Value) (once : Nat) (w : World) (h : ¬ kn = 64) :
    Calls Tryd.prog 44 #[.slice ka kn kc, .int .u64 (once : Int), hv, uv] w fun e w' => e = .returned (.tuple #[.slice none 0 0, .int .i64 1]) ∧ w = w' := by
  have h1 : ¬ (kn : Int) = 64 := by omega
  go_enter Tryd.func44, Tryd.ntmps44
  go_wp2_with fail
  go_ret2
  exact ⟨rfl, rfl⟩

set_option maxRecDepth 100000 in
set_option maxHeartbeats 4000000 in
theorem seal_any (kv hv uv : Value) (key head b : List Nat) (once : Nat) (w : World) (hT : Lay w) (hk : Byt w kv key) (hh : Byt w hv head) (hb : Byt w uv b) (hk8 : U8 key) (hh8 : U8 head) (hb8 : U8 b) (hkl : key.length = 64) (hhl : head.length ≤ 1000000) (hbl : b.length ≤ 900000) (ho : once < 18446744073709551616) :
    Calls Tryd.prog 44 #[kv, .int .u64 (once : Int), hv, uv] w fun e w' => ∃ v', e = .returned (.tuple #[v', .int .i64 0]) ∧ w'.ownsRow w.heap.size 5 1 v' (b.length + 16) (bv (sealL key once head b)) ∧ Below w.heap.size w w' := by
  obtain ⟨i0, hi, hz0, hz1, hz2⟩ := info_parts info5
  have HTU := hide (turned_any kv uv key b once 16 w hT.2 hk hb hk8 hb8 (by omega) (by omega) (by omega) ho)
  have HT := hide hT
  have HK := hide hk
  have HH := hide hh
  have HK8 := hide hk8
  have HH8 := hide hh8
  have HKL := hide hkl
  have HHL := hide hhl
  have HO := hide ho
  obtain ⟨ka, kc, hke⟩ := byt_shape hk
  rw [hkl] at hke
  subst hke
  obtain ⟨bn, hbn⟩ : ∃ x, b.length = x := ⟨_, rfl⟩
  rw [hbn] at HTU ⊢
  have hbl' : bn ≤ 900000 := by omega
  obtain ⟨T, hTT⟩ : ∃ x, tkL key once b = x := ⟨_, rfl⟩
  have hTl : T.length = bn := by rw [← hTT, tkL_len, hbn]
  have HTL := hide hTl
  have HT8 : Hid (U8 T) := hide (hTT ▸ tkL_8 key once hb8)
  have e0 : turnL (startL (key.take 32) once) b = T := hTT
  rw [e0] at HTU
  have HSE : Hid (sealL key once head b = T ++ tagL key once head T) := hide (by rw [sealL, hTT])
  clear hT hk hh hb hk8 hh8 hb8 hkl hhl hbl ho hbn e0 hTT hTl
  go_enter Tryd.func44, Tryd.ntmps44
  go_wp2_with fail
  refine Calls.mono (unhide HTU) ?_
  rintro e w2 ⟨g, rfl, hg, r2, b2⟩
  have O2 := own_row (B := w.heap.size) r2 (unhide HTL) hg (by unfold maxLen; omega)
  have HTG := hide (tag_any (.slice ka 64 kc) hv (.slice (some ⟨g, 0, none⟩) bn (bn + 16)) key head T once w2 ((unhide HT).below b2).1 ((unhide HK).call b2) ((unhide HH).call b2) (Byt.of_own (own_cast O2 (unhide HTL).symm rfl)) (unhide HK8) (unhide HH8) (unhide HT8) (unhide HKL) (unhide HHL) (by rw [unhide HTL]; omega) (unhide HO))
  have HO2 := hide O2
  have HB2 := hide b2
  have HR2 := hide r2
  clear hg r2 b2 O2 HTU
  go_wp2_with fail
  refine Calls.mono (unhide HTG) ?_
  rintro e w3 ⟨gs, rfl, hgs, r3, b3⟩
  have B3 := (unhide HB2).trans (b3.mono (unhide HB2).size)
  have hown : w3.ownsRow w.heap.size 5 1 (.slice (some ⟨g, 0, none⟩) bn (bn + 16)) bn (bv T) := by
    have hlt := (unhide HR2).lt
    have r9 := (unhide HR2).below b3 hlt
    obtain ⟨g', hg'⟩ : ∃ x, w.heap.size = x := ⟨_, rfl⟩
    exact own_row r9 (unhide HTL) (by have := ((unhide HO2).lt g rfl).1; omega) (by unfold maxLen; omega)
  have hs3 := B3.size
  have HLL : Hid ((bv (tagL key once head T)).length = 16 * 1) := hide (by rw [bv_len, tagL_len])
  have HCL : Hid (∀ (b : Addr), some (⟨gs, 0, none⟩ : Addr) = some b → ∀ j u, (bv (tagL key once head T))[j]? = some u → w3.cell? (b.add j) = some u) := hide (fun b hb j u hj => by
    injection hb with hb
    subst hb
    rw [add_plain, Nat.zero_add, r3.cell]
    rw [tagL, bv, List.map_take, List.getElem?_take] at hj
    split at hj
    · exact hj
    · cases hj)
  have HB3 := hide B3
  have HOW := hide hown
  clear b3 B3 r3 hgs HTG HB2 HO2 HR2
  go_wp2_with (at_builtin; refine wpList_append_src _ rfl _ _ 30 rfl w.heap.size 5 i0 (.int .u8 0) 1 1 Tryd.underlying30 hi hz0 hz1 hz2 rfl (by decide) _ _ _ rfl hown (some ⟨gs, 0, none⟩) 16 32 (bv (tagL key once head T)) rfl (unhide HLL) (fun h => by cases h) (unhide HCL) (bv_one _) ?c3 ?c4 hs3 ?_)
  case c3 => unfold maxLen; omega
  case c4 => omega
  intro a5 c5 w5 ho5 hg5
  rw [← bv_append, ← unhide HSE] at ho5
  have HF := hide ho5
  have HBF := hide ((unhide HB3).grown hg5 hs3 (fun k hk => ((unhide HOW).lt k hk).1))
  clear ho5 hg5 hown
  go_wp2_with fail
  go_ret2
  exact ⟨_, rfl, unhide HF, unhide HBF⟩
end Go.Proofs.YtbnfilhilgjnfaaDoor
