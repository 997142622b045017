/- The reference's digest of all bytes at once. -/
import Derived.Lib.SmallJoins
import Derived.Lib.LaidTab
import Derived.Lib.LaidU8
import Derived.Deep.DeepHandedRow
import Derived.ChangeOld
import Derived.Test.YtonkgiiacholeaaDoorRefN
import Derived.Test.YtonkgiiacholeaaDoorRefE
import Derived.Deep.DeepCutAuto
namespace Go.Proofs.YtonkgiiacholeaaDoor
set_option linter.unusedVariables false
set_option linter.unusedSimpArgs false
open Go.ChangeShapes Go.WideShapes Go.ChangeAt Go.RowKit Go.Joins

/-- the state behind a block, by the reference -/
def RMix : Prop := ∀ (h b : List Nat) (n : Nat) (last : Bool) (v : Value) (w : World) (hh : h.length = 8) (h32 : W32 h) (hv : Byt w v b) (hb : b.length = 64) (h8 : U8 b) (hn : n ≤ 1000000000000),
    Calls Tryd.prog 83 #[.agg (u32v h).toArray, v, .int .i64 (n : Int), .bool last] w
      fun e w' => e = .returned (.agg (u32v (foldL h b n last)).toArray) ∧ Below w.heap.size w w'

set_option maxRecDepth 100000 in
set_option maxHeartbeats 8000000 in
theorem digest_of (hmix : RMix) (kv uv : Value) (key b : List Nat) (w : World) (hk : Byt w kv key) (hb : Byt w uv b) (hk8 : U8 key) (hb8 : U8 b) (hkl : key.length ≤ 32) (hbl : b.length ≤ 1000000) :
    Calls Tryd.prog 59 #[kv, uv] w fun e w' => e = .returned (.agg (bv (sumL (stW key.length) (kblk key ++ b))).toArray) ∧ Below w.heap.size w w' := by
  obtain ⟨i0, hi, hz0, hz1, hz2⟩ := info_parts info5
  have HMX := hide hmix
  have HKY := hide hk
  have HBY := hide hb
  have HK8 := hide hk8
  have HB8 := hide hb8
  obtain ⟨ka, kc, hke⟩ := byt_shape hk
  obtain ⟨ba, bc, hbe⟩ := byt_shape hb
  obtain ⟨kn, hkn⟩ : ∃ x, key.length = x := ⟨_, rfl⟩
  obtain ⟨bn, hbn⟩ : ∃ x, b.length = x := ⟨_, rfl⟩
  rw [hkn] at hke
  rw [hbn] at hbe
  rw [hkn]
  subst hke hbe
  have HKN := hide hkn
  have HBN := hide hbn
  have hz := zero50
  generalize hZ : (u32v (List.replicate 8 0)).toArray = Z at hz
  have HZS : Hid (Z.size = 8) := hide (by rw [← hZ]; rfl)
  have hy := zero27
  generalize hY : (bv (List.replicate 32 0)).toArray = Y at hy
  have HYS : Hid (Y.size = 32) := hide (by rw [← hY, List.size_toArray, bv_len, List.length_replicate])
  have HYE := hide hY
  have hkl' : kn ≤ 32 := by omega
  have hbl' : bn ≤ 1000000 := by omega
  obtain ⟨g, hg⟩ : ∃ g, w.heap.size = g := ⟨_, rfl⟩
  have HG := hide hg
  have b0 : Below w.heap.size w (w.alloc (.cells Y 43)) := (Below.refl _ _).alloc (Nat.le_refl _) _
  have HRD : Hid (RowAt (w.alloc (.cells Y 43)) g 43 (bv (List.replicate 32 0))) := hide (by
    have := RowAt.new w 43 (bv (List.replicate 32 0))
    rw [hY, hg] at this
    exact this)
  have HB0 := hide b0
  have HWD := hide (words_any (w.alloc (.cells Y 43)))
  clear hZ hY hk hb hk8 hb8 hkn hbn hkl hbl b0 hmix
  go_enter Tryd.func59, Tryd.ntmps59
  go_wp2_with fail
  generalize w.alloc (.cells Y 43) = w1 at *
  refine Calls.mono (unhide HWD) ?_
  rintro e w2 ⟨rfl, b2⟩
  obtain ⟨F, hF⟩ : ∃ F, (u32v firstW).toArray = F := ⟨_, rfl⟩
  rw [hF]
  have HFS : Hid (F.size = 8) := hide (by rw [← hF]; rfl)
  have HFO : Hid (F.all (·.oneCell') = true) := hide (hF ▸ one_u32 _)
  obtain ⟨gh, hgh⟩ : ∃ x, w2.heap.size = x := ⟨_, rfl⟩
  have R3 : RowAt (w2.alloc (.cells F 126)) gh 126 (u32v firstW) := by
    have := RowAt.new w2 126 (u32v firstW)
    rw [hF, hgh] at this
    exact this
  have HD2 := hide ((unhide HRD).below b2 (unhide HRD).lt)
  have HB2 := hide ((unhide HB0).trans (b2.mono (unhide HB0).size))
  have HGH : Hid (g < gh) := hide (by have := b2.size; have := (unhide HRD).lt; omega)
  have c0 : (w2.alloc (.cells F 126)).cell? ⟨gh, 0, none⟩ = some (.int .u32 1779033703) := R3.cell 0
  have z0 := R3.frozen 0
  have HR3 := hide R3
  have HFE := hide hF
  clear b2 R3 hF HWD HB0 HRD
  have x1 : bits .xor .u32 1779033703 16842752 = 1795745383 := by decide
  have x2 := u32_xor_nat 1795745383 (256 * kn) (by decide) (by omega)
  have l2 : 1795745383 ^^^ (256 * kn) < 4294967296 := xor_lt (by decide) (by omega)
  have HST := hide (stW_eq kn)
  have HST32 := hide (stW_32 kn hkl')
  generalize 1795745383 ^^^ (256 * kn) = X1 at *
  have x3 := u32_xor_nat X1 32 l2 (by decide)
  generalize X1 ^^^ 32 = X2 at *
  obtain ⟨F2, hF2⟩ : ∃ x, (u32v (stW kn)).toArray = x := ⟨_, rfl⟩
  have HFs : Hid (F.setIfInBounds 0 (.int .u32 (X2 : Int)) = F2) := hide (by rw [← hF2, ← unhide HST, ← unhide HFE, ← u32v_set, List.setIfInBounds_toArray])
  have HF2 := hide hF2
  clear hF2
  have e0 : (256 * (kn : Int)) % 4294967296 = 256 * (kn : Int) := by omega
  have x2' : bits .xor .u32 1795745383 (256 * (kn : Int)) = (X1 : Int) := by rw [show 256 * (kn : Int) = ((256 * kn : Nat) : Int) by omega]; exact x2
  have x3' : bits .xor .u32 (X1 : Int) 32 = (X2 : Int) := x3
  clear x2 x3
  go_upto_if 27 with (refine wpList_store_new' rfl 126 _ _ rfl F gh hgh (by kernel_rfl) (by kernel_rfl) (by rw [z50, unhide HFS]) (by rw [unhide HFS, unhide HZS]) (unhide HFO) ?_)
  rw [unhide HFs]
  have R4 : RowAt (w2.alloc (.cells F2 126)) gh 126 (u32v (stW kn)) := by
    have := RowAt.new w2 126 (u32v (stW kn))
    rw [unhide HF2, hgh] at this
    exact this
  have b4 : Below w2.heap.size w2 (w2.alloc (.cells F2 126)) := (Below.refl _ _).alloc (Nat.le_refl _) _
  have HR4 := hide R4
  have HD4 := hide ((unhide HD2).below b4 (unhide HD2).lt)
  have HB4 := hide ((unhide HB2).trans (b4.mono (unhide HB2).size))
  have HS4 : Hid ((w2.alloc (.cells F2 126)).heap.size = gh + 1) := hide (by rw [size_alloc, hgh])
  have HK4 := hide ((unhide HKY).call (unhide HB4))
  clear R4 b4 HR3 HD2 HB2 c0 z0 x1 x2' x3' HST l2 e0 HFs
  generalize w2.alloc (.cells F2 126) = w4 at *
  go_cut [6] (fun v wx => ∃ a c, v = .slice a (kblk key).length c ∧ Hid (wx.ownsRow (gh + 1) 5 1 v (kblk key).length (bv (kblk key)) ∧ Below (gh + 1) w4 wx))
  case first =>
    by_cases hk0 : kn = 0
    · subst hk0
      have hke : key = [] := List.eq_nil_of_length_eq_zero (unhide HKN)
      have hkb : kblk key = [] := by rw [hke]; rfl
      have hr : Hid (w4.ownsRow (gh + 1) 5 1 (.slice none 0 0) (kblk key).length (bv (kblk key)) ∧ Below (gh + 1) w4 w4) := hide ⟨by rw [hkb]; exact World.ownsRow_nil _ _ _ _, Below.refl _ _⟩
      have hl : (kblk key).length = 0 := by rw [hkb]; rfl
      have HL := hide hl
      clear hke hkb hl
      go_wp2_with fail
      go_meet
      case rel => exact ⟨none, 0, by rw [unhide HL], hr⟩
    · have hkp : (0 : Int) < (kn : Int) := by omega
      have HSR := hide (byt_src (unhide HK4) (unhide HKN))
      have HLL : Hid ((bv key).length = kn * 1) := hide (by rw [bv_len, unhide HKN]; omega)
      have hown : w4.ownsRow (gh + 1) 5 1 (.slice none 0 0) 0 [] := World.ownsRow_nil _ _ _ _
      have hs4 : gh + 1 ≤ w4.heap.size := by have := unhide HS4; omega
      have HKB : Hid (kblk key = key ++ List.replicate (64 - kn) 0) := hide (by
        have : ¬ key = [] := fun e => hk0 (by rw [← unhide HKN, e]; rfl)
        rw [kblk, if_neg this, padK, unhide HKN])
      clear HR4 HD4 HB4 HK4
      go_wp2_with (at_builtin; refine wpList_append_src _ rfl _ _ 22 rfl (gh + 1) 5 i0 (.int .u8 0) 1 1 Tryd.underlying22 hi hz0 hz1 hz2 rfl (by decide) _ _ _ rfl hown ka kn kc (bv key) rfl (unhide HLL) (unhide HSR).1 (unhide HSR).2 (bv_one key) ?c3 ?c4 hs4 ?_)
      case c3 => unfold maxLen; omega
      case c4 => omega
      intro a5 c5 w5 ho5 hg5
      have HF : Hid (w5.ownsRow (gh + 1) 5 1 (.slice a5 kn c5) kn (bv (key ++ List.replicate 0 0)) ∧ Below (gh + 1) w4 w5) := hide ⟨by simpa using ho5, (Below.refl _ _).grown hg5 hs4 (fun k hk => by cases hk)⟩
      clear ho5 hg5 hown
      go_wp2_with fail
      go_loopw [6] (fun v wr => ∃ (j m : Nat) (a' : Option Addr) (c' : Nat), m = kn + j ∧ m ≤ 64 ∧ v = .slice a' m c' ∧ Hid (wr.ownsRow (gh + 1) 5 1 v m (bv (key ++ List.replicate j 0)) ∧ Below (gh + 1) w4 wr)) (fun v _ => 64 - lenOf v)
      case atStart => exact ⟨0, kn, _, _, by omega, by omega, rfl, HF⟩
      case round =>
        obtain ⟨j, m, a', c', hm, hm64, rfl, HC⟩ := hrel
        by_cases hlt : m < 64
        · have hmI : (m : Int) < 64 := by omega
          obtain ⟨h1, h2⟩ := unhide HC
          have h1' := h1.alloc (.cells #[.int .u8 0] 5)
          have hs5 : gh + 1 ≤ (wr.alloc (.cells #[.int .u8 0] 5)).heap.size := by have := h2.size; have := unhide HS4; rw [size_alloc]; omega
          have b5 : Below (gh + 1) w4 (wr.alloc (.cells #[.int .u8 0] 5)) := h2.alloc (by have := h2.size; have := unhide HS4; omega) _
          have HCL : Hid (∀ (b : Addr), some (⟨wr.heap.size, 0, none⟩ : Addr) = some b → ∀ j u, ([.int .u8 0] : List Value)[j]? = some u → (wr.alloc (.cells #[.int .u8 0] 5)).cell? (b.add j) = some u) := hide (fun b hb j u hj => by
            injection hb with hb
            subst hb
            exact new_cells wr [.int .u8 0] 5 j u hj)
          have HB5 := hide b5
          have HLT := hide hlt
          have HM := hide hm
          clear h1 h2 HC b5 hm
          go_wp2_with (at_builtin; refine wpList_append_src _ rfl _ _ 22 rfl (gh + 1) 5 i0 (.int .u8 0) 1 1 Tryd.underlying22 hi hz0 hz1 hz2 rfl (by decide) _ _ _ rfl h1' (some ⟨wr.heap.size, 0, none⟩) 1 1 [.int .u8 0] rfl rfl (fun h => by cases h) (unhide HCL) (fun u hu => by obtain rfl := List.mem_singleton.1 hu; rfl) ?c3 ?c4 hs5 ?_)
          case c3 => unfold maxLen; omega
          case c4 => omega
          intro a6 c6 w6 ho6 hg6
          have HF6 : Hid (w6.ownsRow (gh + 1) 5 1 (.slice a6 (m + 1) c6) (m + 1) (bv (key ++ List.replicate (j + 1) 0)) ∧ Below (gh + 1) w4 w6) := hide ⟨by
            have e : bv (key ++ List.replicate (j + 1) 0) = bv (key ++ List.replicate j 0) ++ [.int .u8 0] := by
              rw [List.replicate_succ', ← List.append_assoc, bv_append]; rfl
            rw [e]; exact ho6, (unhide HB5).grown hg6 hs5 (fun k hk => (h1'.lt k hk).1)⟩
          clear ho6 hg6 h1'
          go_wp2_with fail
          go_roundw
          case rel => exact ⟨j + 1, m + 1, a6, c6, by have := unhide HM; omega, by have := unhide HLT; omega, rfl, HF6⟩
          case measure => have := unhide HLT; simp [lenOf]; omega
        · have hmI : ¬ (m : Int) < 64 := by omega
          have hj : j = 64 - kn := by omega
          have hm2 : m = 64 := by omega
          rw [hj, ← unhide HKB] at HC
          have HL : Hid ((kblk key).length = m) := hide (by rw [unhide HKB, List.length_append, List.length_replicate, unhide HKN]; omega)
          clear hm hj hm2
          go_wp2_with fail
          go_meet
          case rel => exact ⟨a', c', by rw [unhide HL], by rw [unhide HL]; exact HC⟩
  case rest =>
    obtain ⟨aa, ac, rfl, HOB⟩ := hcut
    obtain ⟨A, hA⟩ : ∃ x, kblk key = x := ⟨_, rfl⟩
    have HA8 : Hid (U8 A) := hide (by rw [← hA]; unfold kblk; split; (intro y hy; cases hy); exact padK_8 (unhide HK8))
    obtain ⟨an, han⟩ : ∃ x, A.length = x := ⟨_, rfl⟩
    have han64 : an ≤ 64 := by
      rw [← han, ← hA]; unfold kblk; split
      · simp
      · rw [padK_len _ (by rw [unhide HKN]; omega)]; omega
    rw [hA, han] at HOB ⊢
    have bc4 := (unhide HOB).2
    have hown := (unhide HOB).1
    have BW : Below w.heap.size w wc := (unhide HB4).trans (bc4.mono (by have := unhide HG; have := unhide HGH; omega))
    have HSR := hide (byt_src ((unhide HBY).call BW) (unhide HBN))
    have HLL : Hid ((bv b).length = bn * 1) := hide (by rw [bv_len, unhide HBN]; omega)
    have hs4 : gh + 1 ≤ wc.heap.size := by have := bc4.size; have := unhide HS4; omega
    have HBC := hide bc4
    have HAN := hide han
    have HAE := hide hA
    clear bc4 BW HOB han hA
    go_wp2_with (at_builtin; refine wpList_append_src _ rfl _ _ 22 rfl (gh + 1) 5 i0 (.int .u8 0) 1 1 Tryd.underlying22 hi hz0 hz1 hz2 rfl (by decide) _ _ _ rfl hown ba bn bc (bv b) rfl (unhide HLL) (unhide HSR).1 (unhide HSR).2 (bv_one b) ?c3 ?c4 hs4 ?_)
    case c3 => unfold maxLen; omega
    case c4 => omega
    intro a5 c5 w5 ho5 hg5
    rw [← bv_append] at ho5
    obtain ⟨N, hN⟩ : ∃ x, an + bn = x := ⟨_, rfl⟩
    rw [hN] at ho5 ⊢
    have B5 : Below (gh + 1) w4 w5 := (unhide HBC).grown hg5 hs4 (fun k hk => (hown.lt k hk).1)
    have HN : Hid ((A ++ b).length = N) := hide (by rw [List.length_append, unhide HAN, unhide HBN, hN])
    have HA8' : Hid (U8 (A ++ b)) := hide (u8_app (unhide HA8) (unhide HB8))
    have hNb : N ≤ 2000000 := by omega
    obtain ⟨all, hall⟩ : ∃ x, A ++ b = x := ⟨_, rfl⟩
    rw [hall] at ho5 HN HA8'
    have HALEE : Hid (kblk key ++ b = all) := hide (by rw [unhide HAE, hall])
    obtain ⟨h0, hh0⟩ : ∃ x, stW kn = x := ⟨_, rfl⟩
    have HH0 : Hid (h0.length = 8) := hide (hh0 ▸ stW_len kn)
    rw [hh0] at HR4 HST32
    have HH0E := hide hh0
    have HR5 := hide ((unhide HR4).below B5 (by omega))
    have HD5 := hide ((unhide HD4).below B5 (by have := unhide HGH; omega))
    have HB5 := hide ((unhide HB4).trans (B5.mono (by have := unhide HG; have := unhide HGH; omega)))
    have HO5 := hide ho5
    have HAB : Hid (Byt w5 (.slice a5 N c5) all) := hide (Byt.of_own (by rw [unhide HN]; exact ho5))
    have hs5 := B5.size
    have HG5 : Hid (gh + 1 ≤ w5.heap.size) := hide (by have := unhide HS4; omega)
    have HNA : Hid (a5 = none → N = 0) := hide (byt_src (unhide HAB) (unhide HN)).1
    have hc5 : N ≤ c5 ∧ c5 ≤ maxLen := by
      rcases unhide HAB with ⟨h1, h2⟩ | ⟨ad, cap, h1, h2, h3, _⟩
      · injection h1 with e1 e2 e3
        subst e3
        rw [e2]
        exact ⟨Nat.le_refl _, Nat.zero_le _⟩
      · injection h1 with e1 e2 e3
        subst e3
        rw [unhide HN] at h2
        exact ⟨h2, h3⟩
    have hc5m := hc5.2
    unfold maxLen at hc5m
    clear ho5 hg5 hown B5 hs5 hall hh0 HBC HR4 HD4 HB4 HS4 HK4 HA8 HB8 HK8 HSR HLL hN han64 HAN HKY HBY hs4
    obtain ⟨D, hD⟩ : ∃ x, N / 64 = x := ⟨_, rfl⟩
    have hq : Int.tdiv (N : Int) 64 = (D : Int) := by rw [Int.tdiv_eq_ediv_of_nonneg (by omega)]; omega
    have hq' : (N : Int) / 64 = (D : Int) := by omega
    go_wp2_with fail
    go_loopw [44, 7] (fun s n wr => ∃ k m : Nat, m = 64 * k ∧ s = .int .i64 (k : Int) ∧ n = .int .i64 (m : Int) ∧ k ≤ (N - 1) / 64 ∧ Hid (RowAt wr gh 126 (u32v (hsK h0 all k)) ∧ Only (· = gh) w5 wr)) (fun s _ _ => ((D : Int) + 1 - intOf s).toNat)
    case atStart => exact ⟨0, 0, rfl, rfl, rfl, Nat.zero_le _, unhide HR5, Only.refl _ _⟩
    case round =>
      obtain ⟨k, m, hm, rfl, rfl, hk, HC⟩ := hrel
      rename World => wo
      obtain ⟨f1, f2, f3⟩ := nf_le N k hk
      have hkI : (k : Int) < (D : Int) + 1 := by omega
      obtain ⟨Lf, hLf⟩ : ∃ x, N - m = x := ⟨_, rfl⟩
      have e1 : (N : Int) - (m : Int) = (Lf : Int) := by omega
      obtain ⟨M, hM⟩ : ∃ x, min Lf 64 = x := ⟨_, rfl⟩
      have hM1 : M ≤ 64 ∧ M ≤ Lf ∧ m + M ≤ N := by omega
      obtain ⟨d1, d2⟩ := unhide HC
      have AB := d2.byt (unhide HAB) (own_off (unhide HO5) (fun k hk => by omega))
      have hwr : gh + 1 ≤ wo.heap.size := by have := d2.size; have := unhide HG5; omega
      have HAW := hide AB
      have HH1 : Hid ((hsK h0 all k).length = 8) := hide (hsK_len h0 all (unhide HH0) k)
      have HH2 : Hid (W32 (hsK h0 all k)) := hide (hsK_32 all (unhide HST32) k (by omega))
      have HPL : Hid (((all.drop m).take M).length = M) := hide (by rw [List.length_take, List.length_drop, unhide HN]; omega)
      have HP8 : Hid (U8 ((all.drop m).take M)) := hide (u8_take (u8_drop (unhide HA8') m) M)
      obtain ⟨Bp, hBp⟩ : ∃ x, wo.heap.size = x := ⟨_, rfl⟩
      have HMM := hide hm
      have HKK := hide hk
      have HF3 := hide f3
      have HLF := hide hLf
      have HM := hide hM
      have HM1 := hide hM1
      have hmN : m + M ≤ N := hM1.2.2
      have hM64 : M ≤ 64 := hM1.1
      clear d1 d2 AB f1 f2 f3 hm hk hLf hM hM1
      have hmin : min (Lf : Int) 64 = (M : Int) := by have := unhide HM; omega
      obtain ⟨A', hA'⟩ : ∃ x, (if c5 = m then a5 else a5.map (·.add m)) = x := ⟨_, rfl⟩
      have HSL := hide (fun w => slice_run a5 N c5 m M w (by omega))
      have HSB := hide ((unhide HAW).sub' m M hmN)
      rw [hA'] at HSL HSB
      have b7 : Below Bp wo (wo.alloc (.cells #[] 5)) := (Below.refl _ _).alloc (by omega) _
      have hown : (wo.alloc (.cells #[] 5)).ownsRow Bp 5 1 (.slice (some ⟨Bp, 0, none⟩) 0 0) 0 [] := by
        have := World.ownsRow_made (base := Bp) (e := 5) (size := 1) wo #[] 0 (by omega) (Nat.zero_le _) rfl
        rw [hBp] at this
        exact this
      have hs7 : Bp ≤ (wo.alloc (.cells #[] 5)).heap.size := by rw [size_alloc]; omega
      have HB7 := hide b7
      have HNW : Hid (∀ b', A' = some b' → ∀ j u, (bv ((all.drop m).take M))[j]? = some u → (wo.alloc (.cells #[] 5)).cell? (b'.add j) = some u) := hide (fun b' hb' j u hj => by
        have := (unhide HSB).1 b' hb' j u hj
        exact cell_keep ((Below.refl wo.heap.size wo).alloc (Nat.le_refl _) _) (lt_of_cell this) this)
      have HLL : Hid ((bv ((all.drop m).take M)).length = M * 1) := hide (by rw [bv_len, unhide HPL]; omega)
      clear hA' b7
      go_wp2_with (first
        | (refine wpList_slice2 rfl 22 _ _ _ rfl _ _ _ rfl rfl rfl _ (unhide HSL _) ?_)
        | (at_builtin; refine wpList_append_src _ rfl _ _ 22 rfl Bp 5 i0 (.int .u8 0) 1 1 Tryd.underlying22 hi hz0 hz1 hz2 rfl (by decide) _ _ _ rfl hown A' M (c5 - m) (bv ((all.drop m).take M)) (by kernel_rfl) (unhide HLL) (unhide HSB).2 (unhide HNW) (bv_one _) ?c3 ?c4 hs7 ?_))
      case c3 => unfold maxLen; omega
      case c4 => omega
      intro a8 c8 w8 ho8 hg8
      obtain ⟨PP, hPP⟩ : ∃ x, (all.drop m).take M = x := ⟨_, rfl⟩
      have HF8 : Hid (w8.ownsRow Bp 5 1 (.slice a8 M c8) M (bv (PP ++ List.replicate 0 0)) ∧ Below Bp wo w8) := hide ⟨by simpa [hPP] using ho8, (unhide HB7).grown hg8 hs7 (fun k hk => (hown.lt k hk).1)⟩
      rw [hPP] at HPL HP8
      have HPE := hide hPP
      have HBP := hide hBp
      clear ho8 hg8 hown HB7 HNW HLL HSL HSB hPP hs7
      go_wp2_with fail
      go_loopw [9] (fun v wq => ∃ (j p : Nat) (a' : Option Addr) (c' : Nat), p ≤ 64 ∧ v = .slice a' p c' ∧ Hid (p = M + j ∧ wq.ownsRow Bp 5 1 v p (bv (PP ++ List.replicate j 0)) ∧ Below Bp wo wq)) (fun v _ => 64 - lenOf v)
      case atStart => exact ⟨0, M, _, _, hM64, rfl, rfl, (unhide HF8).1, (unhide HF8).2⟩
      case round =>
        obtain ⟨j, p, a', c', hp64, rfl, HE⟩ := hrel
        by_cases hlt : p < 64
        · have hpI : (p : Int) < 64 := by omega
          obtain ⟨h1, h2, h3⟩ := unhide HE
          have h1' := h2.alloc (.cells #[.int .u8 0] 5)
          have hs5 : Bp ≤ (wr.alloc (.cells #[.int .u8 0] 5)).heap.size := by have := h3.size; have := unhide HBP; rw [size_alloc]; omega
          have b5 : Below Bp wo (wr.alloc (.cells #[.int .u8 0] 5)) := h3.alloc (by have := h3.size; have := unhide HBP; omega) _
          have HCL : Hid (∀ (b : Addr), some (⟨wr.heap.size, 0, none⟩ : Addr) = some b → ∀ j u, ([.int .u8 0] : List Value)[j]? = some u → (wr.alloc (.cells #[.int .u8 0] 5)).cell? (b.add j) = some u) := hide (fun b hb j u hj => by
            injection hb with hb
            subst hb
            exact new_cells wr [.int .u8 0] 5 j u hj)
          have HB5' := hide b5
          have HLT := hide hlt
          have HM' := hide h1
          clear h1 h2 h3 HE b5
          go_wp2_with (at_builtin; refine wpList_append_src _ rfl _ _ 22 rfl Bp 5 i0 (.int .u8 0) 1 1 Tryd.underlying22 hi hz0 hz1 hz2 rfl (by decide) _ _ _ rfl h1' (some ⟨wr.heap.size, 0, none⟩) 1 1 [.int .u8 0] rfl rfl (fun h => by cases h) (unhide HCL) (fun u hu => by obtain rfl := List.mem_singleton.1 hu; rfl) ?c3 ?c4 hs5 ?_)
          case c3 => unfold maxLen; omega
          case c4 => omega
          intro a6 c6 w6 ho6 hg6
          have HF6 : Hid (p + 1 = M + (j + 1) ∧ w6.ownsRow Bp 5 1 (.slice a6 (p + 1) c6) (p + 1) (bv (PP ++ List.replicate (j + 1) 0)) ∧ Below Bp wo w6) := hide ⟨by have := unhide HM'; omega, by
            have e : bv (PP ++ List.replicate (j + 1) 0) = bv (PP ++ List.replicate j 0) ++ [.int .u8 0] := by
              rw [List.replicate_succ', ← List.append_assoc, bv_append]; rfl
            rw [e]; exact ho6, (unhide HB5').grown hg6 hs5 (fun k hk => (h1'.lt k hk).1)⟩
          clear ho6 hg6 h1'
          go_wp2_with fail
          go_roundw
          case rel => exact ⟨j + 1, p + 1, a6, c6, by have := unhide HLT; omega, rfl, HF6⟩
          case measure => have := unhide HLT; simp [lenOf]; omega
        · have hpI : ¬ (p : Int) < 64 := by omega
          obtain ⟨x1, x2, x3⟩ := unhide HE
          have hp : p = 64 := by omega
          have hj : j = 64 - M := by omega
          rw [hj] at x2
          have HL64 : Hid ((PP ++ List.replicate (64 - M) 0).length = 64) := hide (by rw [List.length_append, List.length_replicate, unhide HPL]; omega)
          have BV : Byt wr (.slice a' p c') (PP ++ List.replicate (64 - M) 0) := Byt.of_own (own_cast x2 (hp.trans (unhide HL64).symm) rfl)
          have HU8 : Hid (U8 (PP ++ List.replicate (64 - M) 0)) := hide (u8_pad (unhide HP8) _)
          obtain ⟨d1, d2⟩ := unhide HC
          have hBpg : gh < Bp := by omega
          have R8 := d1.below x3 hBpg
          obtain ⟨hk1, hhk⟩ : ∃ x, hsK h0 all k = x := ⟨_, rfl⟩
          have HHK := hide hhk
          rw [hhk] at R8 HH1 HH2
          obtain ⟨LL, hLL⟩ : ∃ x, (u32v hk1).toArray = x := ⟨_, rfl⟩
          have HLS : Hid (LL.size = 8) := hide (by rw [← hLL, List.size_toArray, u32v_len, unhide HH1])
          have HR8 := hide R8
          have HR8A := hide (R8.arr hLL)
          have HO8 : Hid (Only (· = gh) w5 wr) := hide (d2.trans (Only.of_below (by rw [unhide HBP]; exact x3)))
          by_cases hlast : Lf ≤ 64
          · have hl : (Lf : Int) ≤ 64 := by omega
            have HMC := hide (unhide HMX hk1 (PP ++ List.replicate (64 - M) 0) N true (.slice a' p c') wr (unhide HH1) (unhide HH2) BV (unhide HL64) (unhide HU8) (by omega))
            rw [hLL] at HMC
            have hkn : k = (N - 1) / 64 := (unhide HF3).1 (by have := unhide HLF; have := unhide HMM; omega)
            have HFE : Hid (bytesOf (foldL hk1 (PP ++ List.replicate (64 - M) 0) N true) 8 = sumL h0 all) := hide (by
              have e1 : nfOf all = k := by rw [nfOf, unhide HN, hkn]
              have e2 : PP = all.drop (64 * k) := by
                rw [← unhide HPE, unhide HMM, List.take_of_length_le]
                rw [List.length_drop, unhide HN]
                have := unhide HM; have := unhide HLF; have := unhide HMM
                omega
              have e3 : (all.drop (64 * k)).length = M := by rw [← e2]; exact unhide HPL
              rw [sumL, e1, padK, e3, ← e2, unhide HHK, unhide HN])
            have HF32 : Hid (W32 (foldL hk1 (PP ++ List.replicate (64 - M) 0) N true)) := hide (foldL_32 _ (unhide HH2) (by omega))
            have HF8L : Hid ((foldL hk1 (PP ++ List.replicate (64 - M) 0) N true).length = 8) := hide (foldL_len _ _ _ _)
            generalize foldL hk1 (PP ++ List.replicate (64 - M) 0) N true = HX at *
            have HLLE := hide hLL
            clear x1 x2 x3 hp hj BV d1 d2 R8 hhk hLL HE HC hkn hlt hkI e1 hmin hlast
            go_wp2_with (refine wpList_load_row rfl 126 _ rfl gh (by kernel_rfl) 126 LL (0, 0) _ (unhide HR8A) Tryd.underlying126 rfl (by rw [z50, unhide HLS]) ?_)
            refine Calls.mono (unhide HMC) ?_
            rintro e w10 ⟨rfl, b10⟩
            have V10 := (unhide HR8).below b10 (unhide HR8).lt
            have HE10 := hide (V10.arr (unhide HLLE))
            have V11 := V10.setRow (u32v HX)
            obtain ⟨A9, hA9⟩ : ∃ x, (u32v HX).toArray = x := ⟨_, rfl⟩
            rw [hA9] at V11 ⊢
            have HS9 : Hid (A9.size = 8) := hide (by rw [← hA9, List.size_toArray, u32v_len, unhide HF8L])
            have HO9 : Hid (A9.all (·.oneCell') = true) := hide (hA9 ▸ one_u32 _)
            have O11 : Only (· = gh) w5 (w10.setRow gh A9) := ((unhide HO8).trans (Only.of_below b10)).setRow gh A9 rfl
            have HV11 := hide V11
            have HD11 := hide ((unhide HD5).only O11 (by have := unhide HGH; omega))
            have HB11 := hide ((unhide HB5).trans (O11.below (unhide HB5).size (fun k hk => by have := unhide HG; have := unhide HGH; omega)))
            clear b10 V10 V11 O11 HMC HR8 HR8A HO8 hA9 HR5 HD5 HB5 HAB HO5 HAW
            have HYO : Hid (Y.all (·.oneCell') = true) := hide (unhide HYE ▸ one_bv _)
            go_upto_region 21 with (refine wpList_store_row rfl 126 _ _ rfl gh A9 (by kernel_rfl) (by kernel_rfl) 126 LL (unhide HE10) (by rw [z50, unhide HS9]) (by rw [unhide HS9, unhide HLS]) (unhide HO9) ?_)
            obtain ⟨go, hgo⟩ : ∃ x, (w10.setRow gh A9).heap.size = x := ⟨_, rfl⟩
            have b12 : Below (w10.setRow gh A9).heap.size (w10.setRow gh A9) ((w10.setRow gh A9).alloc (.cells Y 43)) := (Below.refl _ _).alloc (Nat.le_refl _) _
            have HR12 : Hid (RowAt ((w10.setRow gh A9).alloc (.cells Y 43)) go 43 (bv (oPart HX 0 0))) := hide (by
              have := RowAt.new (w10.setRow gh A9) 43 (bv (List.replicate 32 0))
              rw [unhide HYE, hgo] at this
              rw [oPart_0]
              exact this)
            have HV12 := hide ((unhide HV11).below b12 (unhide HV11).lt)
            have HD12 := hide ((unhide HD11).below b12 (unhide HD11).lt)
            have HB12 := hide ((unhide HB11).trans (b12.mono (unhide HB11).size))
            have HGO : Hid (gh < go ∧ g < go) := hide (by have := (unhide HV11).lt; have := unhide HGH; omega)
            generalize w10.setRow gh A9 = w11 at *
            clear b12 HV11 HD11 HB11 HE10
            go_wp2_with fail
            generalize w11.alloc (.cells Y 43) = w12 at *
            try rw [hgo]
            go_loopw [79] (fun s wr => ∃ k : Nat, k ≤ 8 ∧ s = .int .i64 (k : Int) ∧ Hid (RowAt wr go 43 (bv (oPart HX k 0)) ∧ Only (· = go) w12 wr)) (fun s _ => (8 - intOf s).toNat)
            case atStart => exact ⟨0, by omega, rfl, unhide HR12, Only.refl _ _⟩
            case round =>
              obtain ⟨i, hi8, rfl, HC⟩ := hrel
              rename World => wo'
              by_cases hlt : i < 8
              · have hiI : (i : Int) < 8 := by omega
                obtain ⟨d1, d2⟩ := unhide HC
                have c0 := u32_cell ((unhide HV12).only d2 (by have := unhide HGO; omega)) i (by rw [unhide HF8L]; exact hlt)
                have X32 := (unhide HF32).getD i
                have HXX : Hid (∀ j, j < 4 → (oPart HX i j).set (4 * i + j) (xd (HX.getD i 0) j % 256) = oPart HX i (j + 1)) := hide (fun j hj => oPart_set HX i j hlt hj)
                generalize HX.getD i 0 = xv at *
                have HX32 := hide X32
                have HLI := hide hlt
                clear X32 d1 d2
                go_wp2_with fail
                go_loopw [85, 12] (fun s x wq => ∃ j : Nat, j ≤ 4 ∧ s = .int .i64 (j : Int) ∧ x = .int .u32 ((xd xv j : Nat) : Int) ∧ Hid (RowAt wq go 43 (bv (oPart HX i j)) ∧ Only (· = go) w12 wq)) (fun s _ _ => (4 - intOf s).toNat)
                case atStart => exact ⟨0, by omega, rfl, by rw [xd_0], (unhide HC).1, (unhide HC).2⟩
                case round =>
                  obtain ⟨j, hj4, rfl, rfl, HE'⟩ := hrel
                  by_cases hjl : j < 4
                  · have hjI : (j : Int) < 4 := by omega
                    obtain ⟨d1, d2⟩ := unhide HE'
                    have hxs := xd_succ xv j
                    have hxl := xd_lt (unhide HX32) j
                    have HSE := hide (unhide HXX j hjl)
                    obtain ⟨q, hq⟩ : ∃ q : Nat, 4 * i + j = q := ⟨_, rfl⟩
                    have hqI : 4 * (i : Int) + (j : Int) = (q : Int) := by omega
                    have hq32 : (q : Int) < 32 := by have := unhide HLI; omega
                    rw [hq] at HSE
                    have c1 := u8_cell d1 q (by rw [oPart_len HX i j (unhide HLI) hj4]; omega)
                    have z1 := d1.frozen q
                    obtain ⟨y1, hy1⟩ : ∃ q, xd xv (j + 1) = q := ⟨_, rfl⟩
                    rw [hy1] at hxs
                    have HY1 := hide hy1
                    clear hy1
                    generalize xd xv j = y0 at *
                    have t1 : (y0 : Int) % 256 % 256 = ((y0 % 256 : Nat) : Int) := by omega
                    have t2 : (y0 : Int) / 256 = (y1 : Int) := by omega
                    have t3 : Int.tdiv (y0 : Int) 256 = (y1 : Int) := by rw [Int.tdiv_eq_ediv_of_nonneg (by omega)]; omega
                    have t4 : Int.tmod (y0 : Int) 256 = ((y0 % 256 : Nat) : Int) := by rw [Int.tmod_eq_emod_of_nonneg (by omega)]; omega
                    obtain ⟨y2, hy2⟩ : ∃ q : Nat, y0 % 256 = q := ⟨_, rfl⟩
                    have t5 : (y0 : Int) % 256 = (y2 : Int) := by omega
                    have t6 : (y2 : Int) % 256 = (y2 : Int) := by omega
                    rw [hy2] at HSE t1 t4
                    have HJ := hide hjl
                    have HD1 := hide d1
                    have HD2 := hide d2
                    clear d1 d2 HE' hxs hq hy2 HXX
                    go_wp2_with fail
                    go_roundw
                    case rel =>
                      have r := (unhide HD1).set q (.int .u8 (y2 : Int))
                      rw [bv_set, unhide HSE] at r
                      exact ⟨j + 1, by have := unhide HJ; omega, by go_num, by rw [unhide HY1], r, (unhide HD2).set go q _ rfl⟩
                    case measure => have := unhide HJ; simp [intOf]; omega
                  · have hjI : ¬ (j : Int) < 4 := by omega
                    obtain rfl : j = 4 := by omega
                    go_wp2_with fail
                    go_roundw
                    case rel => exact ⟨i + 1, by have := unhide HLI; omega, by go_num, by rw [← oPart_next HX i (unhide HLI)]; exact (unhide HE').1, (unhide HE').2⟩
                    case measure => have := unhide HLI; simp [intOf]; omega
              · have hiI : ¬ (i : Int) < 8 := by omega
                have hi8' : i = 8 := by omega
                rw [hi8', oPart_8, unhide HFE] at HC
                obtain ⟨d1, d2⟩ := unhide HC
                obtain ⟨E, hE⟩ : ∃ E, (bv (sumL h0 all)).toArray = E := ⟨_, rfl⟩
                have HE1 := hide (d1.arr hE)
                have HE2 := hide (((unhide HD12).only d2 (by have := unhide HGO; omega)).arr (unhide HYE))
                have HES : Hid (E.size = 32) := hide (by rw [← hE, List.size_toArray, bv_len, sumL_len])
                have HEO : Hid (E.all (·.oneCell') = true) := hide (hE ▸ one_bv _)
                have HEE := hide hE
                have HB13 := hide ((unhide HB12).trans (d2.below (unhide HB12).size (fun k hk => by have := unhide HG; have := unhide HGO; omega)))
                clear d1 d2 HC hE hi8' hlt HD12 HB12 HV12 HR12
                go_upto_region 33 with fail
                apply wp_region_lit
                refine wpList_load_row rfl 43 _ rfl go (by kernel_rfl) 43 E (0, 0) _ (unhide HE1) Tryd.underlying43 rfl (by rw [z27, unhide HES]) ?_
                simp only [Act.put, List.setIfInBounds_toArray, List.set_cons_succ, List.set_cons_zero]
                refine wpList_store_row rfl 43 _ _ rfl g E (by kernel_rfl) (by kernel_rfl) 43 Y (unhide HE2) (by rw [z27, unhide HES]) (by rw [unhide HES, unhide HYS]) (unhide HEO) ?_
                have HE3 : Hid ((wo'.setRow g E).heap[g]? = some (.cells E 43 (0, 0))) := hide (setRow_heap _ _ _ _ _ _ (unhide HE2))
                have HBE : Hid (Below w.heap.size w (wo'.setRow g E)) := hide (Below.trans (unhide HB13) ⟨rfl, rfl, rfl, by simp [World.setRow], fun k hk => setRow_other _ _ _ _ (by have := unhide HG; omega)⟩)
                generalize wo'.setRow g E = wz at *
                clear HE1 HE2 HB13
                refine wpList_nil ?_
                repeat (first | (go_big_may; go_says fail) | go_values | go_skip | go_guarded | go_step | go_upon)
                refine bodyPost_ret (results_cell_row Tryd.results59 _ _ g 43 E (0, 0) _ rfl (unhide HE3) Tryd.underlying43 rfl (by rw [z27, unhide HES])) rfl ⟨?_, ?_⟩
                · rw [← unhide HEE, unhide HALEE, unhide HH0E]
                · have hz9 := unhide HBE
                  (first | exact hz9 | (rw [unhide HG] at hz9; exact hz9))
          · have hl : ¬ (Lf : Int) ≤ 64 := by omega
            have hM' : M = 64 := by have := unhide HM; omega
            obtain ⟨m2, hm2⟩ : ∃ x, m + 64 = x := ⟨_, rfl⟩
            have e9 : (m : Int) + 64 = (m2 : Int) := by omega
            have HMC := hide (unhide HMX hk1 (PP ++ List.replicate (64 - M) 0) m2 false (.slice a' p c') wr (unhide HH1) (unhide HH2) BV (unhide HL64) (unhide HU8) (by omega))
            rw [hLL] at HMC
            have HNX : Hid (foldL hk1 (PP ++ List.replicate (64 - M) 0) m2 false = hsK h0 all (k + 1) ∧ m2 = 64 * (k + 1) ∧ k + 1 ≤ (N - 1) / 64) := hide (by
              have := unhide HMM
              have := unhide HKK
              have := unhide HF3
              have := unhide HLF
              refine ⟨?_, by omega, by omega⟩
              rw [hsK, unhide HHK, hM', ← unhide HPE, hM', Nat.sub_self, List.replicate_zero, List.append_nil, unhide HMM, show 64 * k + 64 = m2 by omega])
            have HF8L : Hid ((foldL hk1 (PP ++ List.replicate (64 - M) 0) m2 false).length = 8) := hide (foldL_len _ _ _ _)
            generalize foldL hk1 (PP ++ List.replicate (64 - M) 0) m2 false = HX at *
            have HLLE := hide hLL
            have HKD := hide hkI
            have hkb : (k : Int) ≤ 2000000 := by omega
            clear x1 x2 x3 hp hj BV d1 d2 R8 hhk hLL HE HC hlt hkI e1 hmin hlast hM' hm2
            go_wp2_with (refine wpList_load_row rfl 126 _ rfl gh (by kernel_rfl) 126 LL (0, 0) _ (unhide HR8A) Tryd.underlying126 rfl (by rw [z50, unhide HLS]) ?_)
            refine Calls.mono (unhide HMC) ?_
            rintro e w10 ⟨rfl, b10⟩
            have V10 := (unhide HR8).below b10 (unhide HR8).lt
            have HE10 := hide (V10.arr (unhide HLLE))
            have V11 := V10.setRow (u32v HX)
            obtain ⟨A9, hA9⟩ : ∃ x, (u32v HX).toArray = x := ⟨_, rfl⟩
            rw [hA9] at V11 ⊢
            have HS9 : Hid (A9.size = 8) := hide (by rw [← hA9, List.size_toArray, u32v_len, unhide HF8L])
            have HO9 : Hid (A9.all (·.oneCell') = true) := hide (hA9 ▸ one_u32 _)
            have O11 : Only (· = gh) w5 (w10.setRow gh A9) := ((unhide HO8).trans (Only.of_below b10)).setRow gh A9 rfl
            have HF : Hid (RowAt (w10.setRow gh A9) gh 126 (u32v HX) ∧ Only (· = gh) w5 (w10.setRow gh A9)) := hide ⟨V11, O11⟩
            rw [(unhide HNX).1] at HF
            clear b10 V10 V11 O11 HMC HR8 HR8A HO8 hA9
            go_wp2_with (refine wpList_store_row rfl 126 _ _ rfl gh A9 (by kernel_rfl) (by kernel_rfl) 126 LL (unhide HE10) (by rw [z50, unhide HS9]) (by rw [unhide HS9, unhide HLS]) (unhide HO9) ?_)
            go_roundw
            case rel => exact ⟨k + 1, m2, (unhide HNX).2.1, by go_num, rfl, (unhide HNX).2.2, HF⟩
            case measure => have := unhide HKD; simp [intOf]; omega

end Go.Proofs.YtonkgiiacholeaaDoor
