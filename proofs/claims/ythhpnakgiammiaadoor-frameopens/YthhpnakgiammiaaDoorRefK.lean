/- The reference's digests by a key. -/
import Derived.Test.YthhpnakgiammiaaDoorRefX
import Derived.Test.YthhpnakgiammiaaDoorRefD
import Derived.Test.YthhpnakgiammiaaDoorKeyed
namespace Go.Proofs.YthhpnakgiammiaaDoor
set_option linter.unusedVariables false
set_option linter.unusedSimpArgs false
open Go.ChangeShapes Go.WideShapes Go.ChangeAt Go.RowKit Go.Joins

theorem digest_any (kv uv : Value) (key b : List Nat) (w : World) (hk : Byt w kv key) (hb : Byt w uv b) (hk8 : U8 key) (hb8 : U8 b) (hkl : key.length ≤ 32) (hbl : b.length ≤ 1000000) :
    Calls Tryd.prog 72 #[kv, uv] w fun e w' => e = .returned (.agg (bv (sumL (stW key.length) (kblk key ++ b))).toArray) ∧ Below w.heap.size w w' :=
  digest_of (fun h b n last v w hh h32 hv hb h8 hn => rmix_any h b n last v w hh h32 hv hb h8 hn) kv uv key b w hk hb hk8 hb8 hkl hbl
/-- the bytes of a whole array -/
theorem Byt.row {w : World} {g : Nat} {t : TypeId} {l : List Nat} {n : Nat} (h : RowAt w g t (bv l)) (hn : l.length = n) (hm : n ≤ maxLen) : Byt w (.slice (some ⟨g, 0, none⟩) n n) l := by
  subst hn
  refine .inr ⟨_, _, rfl, Nat.le_refl _, hm, fun i y hy => ?_⟩
  rw [add_plain, Nat.zero_add, h.cell, bv, List.getElem?_map, hy]
  rfl

set_option maxRecDepth 100000 in
set_option maxHeartbeats 4000000 in
theorem rkeyed_any (kv uv : Value) (key b : List Nat) (w : World) (hk : Byt w kv key) (hb : Byt w uv b) (hk8 : U8 key) (hb8 : U8 b) (hkl : key.length ≤ 1000000) (hbl : b.length ≤ 1000000) :
    Calls Tryd.prog 55 #[kv, uv] w fun e w' => e = .returned (.agg (bv (keyedL key b)).toArray) ∧ Below w.heap.size w w' := by
  have HKY := hide hk
  have HBY := hide hb
  obtain ⟨ka, kc, hke⟩ := byt_shape hk
  obtain ⟨ba, bc, hbe⟩ := byt_shape hb
  obtain ⟨kn, hkn⟩ : ∃ x, key.length = x := ⟨_, rfl⟩
  obtain ⟨bn, hbn⟩ : ∃ x, b.length = x := ⟨_, rfl⟩
  rw [hkn] at hke
  rw [hbn] at hbe
  subst hke hbe
  have hz := zero27
  generalize hZ : (bv (List.replicate 32 0)).toArray = Z at hz
  have HZE := hide hZ
  have HZS : Hid (Z.size = 32) := hide (by rw [← hZ, List.size_toArray, bv_len, List.length_replicate])
  have b1 : Below w.heap.size w (w.alloc (.cells Z 78)) := (Below.refl _ _).alloc (Nat.le_refl _) _
  have HRK : Hid (RowAt (w.alloc (.cells Z 78)) w.heap.size 78 (bv (List.replicate 32 0))) := hide (hZ ▸ RowAt.new w 78 (bv (List.replicate 32 0)))
  have HB1 := hide b1
  have HKN := hide hkn
  obtain ⟨g, hg⟩ : ∃ g, w.heap.size = g := ⟨_, rfl⟩
  rw [hg] at HRK
  have HG := hide hg
  clear hZ hk hb b1 hbn
  by_cases hfit : 0 < kn ∧ kn ≤ 32
  · have HKE : Hid (keyK key = key) := hide (by rw [keyK, if_pos (by rw [hkn]; exact hfit)])
    have t1 : ¬ kn = 0 := by omega
    have t2 : ¬ (32 : Int) < (kn : Int) := by omega
    have HDG := hide (digest_any _ _ key b (w.alloc (.cells Z 78)) ((unhide HKY).call (unhide HB1)) ((unhide HBY).call (unhide HB1)) hk8 hb8 (by omega) hbl)
    clear hkn hfit
    go_enter Tryd.func55, Tryd.ntmps55
    go_wp2_with fail
    generalize w.alloc (.cells Z 78) = wk at *
    refine Calls.mono (unhide HDG) ?_
    rintro e w5 ⟨rfl, b5⟩
    obtain ⟨E, hE⟩ : ∃ E, (bv (sumL (stW key.length) (kblk key ++ b))).toArray = E := ⟨_, rfl⟩
    rw [hE]
    have HE2 := hide (((unhide HRK).below b5 (unhide HRK).lt).arr (unhide HZE))
    have HES : Hid (E.size = 32) := hide (by rw [← hE, List.size_toArray, bv_len, sumL_len])
    have HEO : Hid (E.all (·.oneCell') = true) := hide (hE ▸ one_bv _)
    have HEE := hide hE
    have HB5 := hide ((unhide HB1).trans (b5.mono (unhide HB1).size))
    clear b5 HRK HB1 HDG hE
    go_wp2_with (refine wpList_store_row rfl 78 _ _ rfl g E rfl rfl 78 Z (unhide HE2) (by rw [z27, unhide HES]) (by rw [unhide HES, unhide HZS]) (unhide HEO) ?_)
    refine bodyPost_ret (results_cell_row Tryd.results55 _ _ g 78 E (0, 0) _ rfl (setRow_heap _ _ _ _ _ _ (unhide HE2)) Tryd.underlying78 rfl (by rw [z27, unhide HES])) rfl ⟨?_, ?_⟩
    · rw [← unhide HEE, keyedL, unhide HKE]
    · have hb := Below.trans (unhide HB5) (⟨rfl, rfl, rfl, by simp [World.setRow], fun k hk => setRow_other _ _ _ _ (by have := unhide HG; omega)⟩ : Below w.heap.size w5 (w5.setRow g E))
      (first | exact hb | (rw [unhide HG] at hb; exact hb))
  · have HKE : Hid (keyK key = sumL (stW 0) key) := hide (by rw [keyK, if_neg (by rw [hkn]; exact hfit)])
    have HDG := hide (digest_any (.slice none 0 0) _ [] key (w.alloc (.cells Z 78)) (.inl ⟨rfl, rfl⟩) ((unhide HKY).call (unhide HB1)) (fun y hy => by cases hy) hk8 (by simp) hkl)
    have hc : kn = 0 ∨ (32 : Int) < (kn : Int) := by omega
    have HK0 : Hid (sumL (stW ([] : List Nat).length) (kblk [] ++ key) = sumL (stW 0) key) := hide rfl
    rw [unhide HK0] at HDG
    have HSL : Hid ((sumL (stW 0) key).length = 32) := hide (sumL_len _ _)
    have HS8 : Hid (U8 (sumL (stW 0) key)) := hide (sumL_8 _ _)
    generalize sumL (stW 0) key = S at *
    clear hkn hfit hkl
    rcases hc with h0 | h0
    · subst h0
      go_enter Tryd.func55, Tryd.ntmps55
      go_wp2_with fail
      generalize w.alloc (.cells Z 78) = wk at *
      refine Calls.mono (unhide HDG) ?_
      rintro e w5 ⟨rfl, b5⟩
      obtain ⟨E, hE⟩ : ∃ E, (bv S).toArray = E := ⟨_, rfl⟩
      rw [hE]
      have HES : Hid (E.size = 32) := hide (by rw [← hE, List.size_toArray, bv_len, unhide HSL])
      have HEO : Hid (E.all (·.oneCell') = true) := hide (hE ▸ one_bv _)
      obtain ⟨gs, hgs⟩ : ∃ x, w5.heap.size = x := ⟨_, rfl⟩
      have R6 : RowAt (w5.alloc (.cells E 78)) gs 78 (bv S) := by
        have := RowAt.new w5 78 (bv S)
        rw [hE, hgs] at this
        exact this
      have b6 : Below wk.heap.size wk (w5.alloc (.cells E 78)) := b5.alloc b5.size _
      have HRK6 := hide ((unhide HRK).below b6 (unhide HRK).lt)
      have HB6 := hide ((unhide HB1).trans (b6.mono (unhide HB1).size))
      have HDG2 := hide (digest_any (.slice (some ⟨gs, 0, none⟩) 32 32) _ S b (w5.alloc (.cells E 78)) (Byt.row R6 (unhide HSL) (by decide)) ((unhide HBY).call (unhide HB6)) (unhide HS8) hb8 (by rw [unhide HSL]; omega) hbl)
      clear b5 b6 R6 HRK HB1 HDG hE
      go_wp2_with (refine wpList_store_new' rfl 78 _ _ rfl E gs hgs (by first | rfl | (rw [← hgs]; rfl)) rfl (by rw [z27, unhide HES]) (by rw [unhide HES, unhide HZS]) (unhide HEO) ?_)
      generalize w5.alloc (.cells E 78) = w6 at *
      refine Calls.mono (unhide HDG2) ?_
      rintro e w7 ⟨rfl, b7⟩
      obtain ⟨E2, hE2⟩ : ∃ E, (bv (sumL (stW S.length) (kblk S ++ b))).toArray = E := ⟨_, rfl⟩
      rw [hE2]
      have HE2 := hide (((unhide HRK6).below b7 (unhide HRK6).lt).arr (unhide HZE))
      have HES2 : Hid (E2.size = 32) := hide (by rw [← hE2, List.size_toArray, bv_len, sumL_len])
      have HEO2 : Hid (E2.all (·.oneCell') = true) := hide (hE2 ▸ one_bv _)
      have HEE := hide hE2
      have HB7 := hide ((unhide HB6).trans (b7.mono (unhide HB6).size))
      clear b7 HRK6 HB6 HDG2 hE2
      go_wp2_with (refine wpList_store_row rfl 78 _ _ rfl g E2 rfl rfl 78 Z (unhide HE2) (by rw [z27, unhide HES2]) (by rw [unhide HES2, unhide HZS]) (unhide HEO2) ?_)
      refine bodyPost_ret (results_cell_row Tryd.results55 _ _ g 78 E2 (0, 0) _ rfl (setRow_heap _ _ _ _ _ _ (unhide HE2)) Tryd.underlying78 rfl (by rw [z27, unhide HES2])) rfl ⟨?_, ?_⟩
      · rw [← unhide HEE, keyedL, unhide HKE]
      · have hb := Below.trans (unhide HB7) (⟨rfl, rfl, rfl, by simp [World.setRow], fun k hk => setRow_other _ _ _ _ (by have := unhide HG; omega)⟩ : Below w.heap.size w7 (w7.setRow g E2))
        (first | exact hb | (rw [unhide HG] at hb; exact hb))
    · have h1 : ¬ kn = 0 := by omega
      go_enter Tryd.func55, Tryd.ntmps55
      go_wp2_with fail
      generalize w.alloc (.cells Z 78) = wk at *
      refine Calls.mono (unhide HDG) ?_
      rintro e w5 ⟨rfl, b5⟩
      obtain ⟨E, hE⟩ : ∃ E, (bv S).toArray = E := ⟨_, rfl⟩
      rw [hE]
      have HES : Hid (E.size = 32) := hide (by rw [← hE, List.size_toArray, bv_len, unhide HSL])
      have HEO : Hid (E.all (·.oneCell') = true) := hide (hE ▸ one_bv _)
      obtain ⟨gs, hgs⟩ : ∃ x, w5.heap.size = x := ⟨_, rfl⟩
      have R6 : RowAt (w5.alloc (.cells E 78)) gs 78 (bv S) := by
        have := RowAt.new w5 78 (bv S)
        rw [hE, hgs] at this
        exact this
      have b6 : Below wk.heap.size wk (w5.alloc (.cells E 78)) := b5.alloc b5.size _
      have HRK6 := hide ((unhide HRK).below b6 (unhide HRK).lt)
      have HB6 := hide ((unhide HB1).trans (b6.mono (unhide HB1).size))
      have HDG2 := hide (digest_any (.slice (some ⟨gs, 0, none⟩) 32 32) _ S b (w5.alloc (.cells E 78)) (Byt.row R6 (unhide HSL) (by decide)) ((unhide HBY).call (unhide HB6)) (unhide HS8) hb8 (by rw [unhide HSL]; omega) hbl)
      clear b5 b6 R6 HRK HB1 HDG hE
      go_wp2_with (refine wpList_store_new' rfl 78 _ _ rfl E gs hgs (by first | rfl | (rw [← hgs]; rfl)) rfl (by rw [z27, unhide HES]) (by rw [unhide HES, unhide HZS]) (unhide HEO) ?_)
      generalize w5.alloc (.cells E 78) = w6 at *
      refine Calls.mono (unhide HDG2) ?_
      rintro e w7 ⟨rfl, b7⟩
      obtain ⟨E2, hE2⟩ : ∃ E, (bv (sumL (stW S.length) (kblk S ++ b))).toArray = E := ⟨_, rfl⟩
      rw [hE2]
      have HE2 := hide (((unhide HRK6).below b7 (unhide HRK6).lt).arr (unhide HZE))
      have HES2 : Hid (E2.size = 32) := hide (by rw [← hE2, List.size_toArray, bv_len, sumL_len])
      have HEO2 : Hid (E2.all (·.oneCell') = true) := hide (hE2 ▸ one_bv _)
      have HEE := hide hE2
      have HB7 := hide ((unhide HB6).trans (b7.mono (unhide HB6).size))
      clear b7 HRK6 HB6 HDG2 hE2
      go_wp2_with (refine wpList_store_row rfl 78 _ _ rfl g E2 rfl rfl 78 Z (unhide HE2) (by rw [z27, unhide HES2]) (by rw [unhide HES2, unhide HZS]) (unhide HEO2) ?_)
      refine bodyPost_ret (results_cell_row Tryd.results55 _ _ g 78 E2 (0, 0) _ rfl (setRow_heap _ _ _ _ _ _ (unhide HE2)) Tryd.underlying78 rfl (by rw [z27, unhide HES2])) rfl ⟨?_, ?_⟩
      · rw [← unhide HEE, keyedL, unhide HKE]
      · have hb := Below.trans (unhide HB7) (⟨rfl, rfl, rfl, by simp [World.setRow], fun k hk => setRow_other _ _ _ _ (by have := unhide HG; omega)⟩ : Below w.heap.size w7 (w7.setRow g E2))
        (first | exact hb | (rw [unhide HG] at hb; exact hb))

end Go.Proofs.YthhpnakgiammiaaDoor
