/- For any three lists of bytes the Go function sealskinlaw07.HashMore returns true, and its arguments read as they did. No condition. -/
import Derived.Test.YtlgbkkfkobijpaaDoorNew
import Derived.Deep.RegionHeld3
import Derived.Deep.MidRow
namespace Go.Proofs.YtlgbkkfkobijpaaDoor.more
set_option linter.unusedVariables false
set_option linter.unusedSimpArgs false
open Go.ChangeShapes Go.WideShapes Go.ChangeAt Go.RowKit Go.Joins

set_option maxRecDepth 100000 in
set_option maxHeartbeats 4000000 in
theorem clone_made (g : Nat) (h0 all : List Nat) (w : World) (hh : h0.length = 8) (hd : Dg w g h0 all) :
    Calls Tryd.prog 24 #[.pointer (some ⟨g, 0, none⟩)] w fun e w' => ∃ g', e = .returned (.pointer (some ⟨g', 0, none⟩)) ∧ w.heap.size ≤ g' ∧ Dg w' g' h0 all ∧ Below w.heap.size w w' := by
  obtain ⟨nf, ⟨blk, y1, y2, y3, y4, y5, y6⟩, yc⟩ := hd
  obtain ⟨Hs, hHs⟩ : ∃ H, hsK h0 all nf = H := ⟨_, rfl⟩
  have HHs : Hid (Hs.length = 8) := hide (by rw [← hHs]; exact hsK_len _ _ hh _)
  have HMD := hide (made_any g Hs blk (all.length - 64 * nf) (64 * nf) true w (unhide HHs) y1 (hHs ▸ y6))
  obtain ⟨D, hD⟩ : ∃ D, (dcells Hs blk (all.length - 64 * nf) (64 * nf) true).toArray = D := ⟨_, rfl⟩
  have HDS : Hid (D.size = 75) := hide (by rw [← hD, List.size_toArray]; exact dcells_len _ _ _ _ _ (unhide HHs) y1)
  have HDO : Hid (D.all (·.oneCell') = true) := hide (by rw [← hD]; simp [dcells, u32v, bv, Value.oneCell'])
  have hz5 := zero55
  generalize hZ5 : (dcells (List.replicate 8 0) (List.replicate 64 0) 0 0 false).toArray = Z5 at hz5
  have HZ5 : Hid (Z5.size = 75) := hide (by rw [← hZ5, List.size_toArray]; exact dcells_len _ _ _ _ _ (List.length_replicate ..) (List.length_replicate ..))
  have HG2 := hide (RowAt.arr (hHs ▸ y6) hD)
  have R3 := RowAt.new w 55 (dcells Hs blk (all.length - 64 * nf) (64 * nf) true)
  rw [hD] at R3
  have HD3 : Hid (Dg (w.alloc (.cells D 55)) w.heap.size h0 all) := hide ⟨nf, ⟨blk, y1, y2, y3, y4, y5, by rw [hHs]; exact R3⟩, yc⟩
  have HB3 : Hid (Below w.heap.size w (w.alloc (.cells D 55))) := hide ((Below.refl _ _).alloc (Nat.le_refl _) _)
  clear hZ5 y1 y2 y3 y4 y5 y6 yc R3 hD hHs
  go_enter Tryd.func24, Tryd.ntmps24
  go_wp2_with fail
  refine Calls.mono (unhide HMD) ?_
  rintro e wx ⟨rfl, rfl⟩
  go_wp2_with (first
      | (refine wpList_load_row rfl 55 _ rfl g rfl 55 D (0, 0) _ (unhide HG2) Tryd.underlying55 rfl (by rw [z55, unhide HDS]) ?_)
      | (refine wpList_store_new rfl 55 _ _ rfl D rfl rfl (by rw [z55, unhide HDS]) (by rw [unhide HDS, unhide HZ5]) (unhide HDO) ?_))
  go_ret
  exact ⟨_, rfl, Nat.le_refl _, unhide HD3, unhide HB3⟩

theorem bal {w0 w : World} (h : Below w0.heap.size w0 w) (o : Obj) : Below w0.heap.size w0 (w.alloc o) := h.alloc h.size o
theorem bcall {w0 w w' : World} (h : Below w0.heap.size w0 w) (b : Below w.heap.size w w') : Below w0.heap.size w0 w' := h.trans (b.mono h.size)
def KA (w0 w' : World) (gx : Nat) (X : List Value) : Prop := w'.rangeAt gx 0 X ∧ Below w0.heap.size w0 w'
theorem KA.call {w0 w' : World} {gx : Nat} {X : List Value} (h : KA w0 w0 gx X) (b : Below w0.heap.size w0 w') : KA w0 w' gx X :=
  ⟨fun j v hj => cell_keep b (lt_of_cell (h.1 j v hj)) (h.1 j v hj), b⟩

set_option maxRecDepth 100000 in
set_option maxHeartbeats 8000000 in
theorem walk (va vb vc : Value) (la lb lc : List Nat) (w : World) (hT : Tabs w) (hva : Byt w va la) (hvb : Byt w vb lb) (hvc : Byt w vc lc) (h8a : U8 la) (h8b : U8 lb) (h8c : U8 lc) :
    Calls Tryd.prog 7 #[va, vb, vc] w fun e w' => e = .returned (.bool true) ∧ Below w.heap.size w w' := by
  have HT := hide hT
  have HA := hide hva
  have HB := hide hvb
  have HC := hide hvc
  have H8A := hide h8a
  have H8B := hide h8b
  have H8C := hide h8c
  have hz := zero27
  generalize hZ : (bv (List.replicate 32 0)).toArray = Z at hz
  have HZS : Hid (Z.size = 32) := hide (by rw [← hZ, List.size_toArray, bv_len, List.length_replicate])
  clear hZ
  obtain ⟨aa, ca, hae⟩ := byt_shape hva
  obtain ⟨ab, cb, hbe⟩ := byt_shape hvb
  obtain ⟨ac, cc, hce⟩ := byt_shape hvc
  obtain ⟨na, hna⟩ : ∃ n, la.length = n := ⟨_, rfl⟩
  obtain ⟨nb, hnb⟩ : ∃ n, lb.length = n := ⟨_, rfl⟩
  obtain ⟨nc, hnc⟩ : ∃ n, lc.length = n := ⟨_, rfl⟩
  rw [hna] at hae
  rw [hnb] at hbe
  rw [hnc] at hce
  subst hae hbe hce
  have L1 := LL.three hva hvb hvc
  have b1 : Below w.heap.size w (w.alloc (.cells #[.slice aa na ca, .slice ab nb cb, .slice ac nc cc] 22)) := (Below.refl _ _).alloc (Nat.le_refl _) _
  have HLG := hide (long_any _ _ _ L1)
  have HB1 := hide b1
  clear hT hva hvb hvc h8a h8b h8c hna hnb hnc L1 b1
  go_enter Tryd.func7, Tryd.ntmps7
  go_wp2_with fail
  generalize w.alloc (.cells #[.slice aa na ca, .slice ab nb cb, .slice ac nc cc] 22) = w1 at *
  refine Calls.mono (unhide HLG) ?_
  rintro e w2 ⟨b, rfl, hlong, rfl⟩
  cases b
  · have hlen : la.length + lb.length + lc.length ≤ 4096 := by have := hlong rfl; simp [flat] at this; omega
    have HLEN := hide hlen
    have HNW := hide (new_any w1 ((unhide HT).below (unhide HB1)))
    have H2 : Hid (2 ≤ w.heap.size) := hide (unhide HT).two
    clear hlong hlen HLG
    go_wp2_with fail
    refine Calls.mono (unhide HNW) ?_
    rintro e w3 ⟨g, rfl, hg, d3, b3⟩
    have B3 := (unhide HB1).trans (b3.mono (unhide HB1).size)
    have HG : Hid (w.heap.size ≤ g) := hide (Nat.le_trans (unhide HB1).size hg)
    have V3 := (unhide HA).call B3
    have L4 := LL.one V3
    have b4 : Below w3.heap.size w3 (w3.alloc (.cells #[.slice aa na ca] 22)) := (Below.refl _ _).alloc (Nat.le_refl _) _
    have T4 := (unhide HT).below (B3.trans (b4.mono B3.size))
    have D4 : Dg (w3.alloc (.cells #[.slice aa na ca] 22)) g (stW 0) [] := d3.only (Only.of_below (p := fun _ => False) b4) id
    have hF4 : LF (.slice (some ⟨w3.heap.size, 0, none⟩) 1 1) [(.slice aa na ca, la)] (· = g) := by
      have hgl := d3.lt
      refine ⟨fun _ k hk e => by simp [Value.ownBlock] at hk; omega, fun x hx hne => ?_⟩
      obtain rfl := List.mem_singleton.1 hx
      exact byt_off (unhide HA) hne (fun k hk => by have := unhide HG; omega)
    have HAD := hide (add_all g (stW 0) [] _ _ _ T4 (by have := unhide H2; have := unhide HG; omega) rfl (stW_32 0 (by omega)) D4 (fun y hy => by cases hy) L4 hF4 (fun x hx => by obtain rfl := List.mem_singleton.1 hx; exact unhide H8A) (by have := unhide HLEN; simp [flat]; omega))
    have HB4 := hide (B3.trans (b4.mono B3.size))
    clear d3 b3 B3 V3 L4 b4 T4 D4 hF4 hg HNW
    go_wp2_with fail
    generalize w3.alloc (.cells #[.slice aa na ca] 22) = w4 at *
    refine Calls.mono (unhide HAD) ?_
    rintro e w5 ⟨rfl, d5, o5⟩
    rw [List.nil_append, show flat [(Value.slice aa na ca, la)] = la by simp [flat]] at d5
    have B5 := (unhide HB4).trans (o5.below (unhide HB4).size (fun k hk => by have := unhide HG; omega))
    have HSM := hide (sum_any g (stW 0) la w5 ((unhide HT).below B5) rfl (stW_32 0 (by omega)) d5 (by have := unhide HLEN; omega))
    have HB5 := hide B5
    have HD5 := hide d5
    clear d5 o5 B5 HAD
    go_wp2_with fail
    refine Calls.mono (unhide HSM) ?_
    rintro e w6 ⟨rfl, b6⟩
    obtain ⟨X, hX⟩ : ∃ X, bv (sumL (stW 0) la) = X := ⟨_, rfl⟩
    rw [hX]
    have HXS : Hid (X.length = 32) := hide (by rw [← hX, bv_len]; exact sumL_len _ _)
    have HXO : Hid (X.toArray.all (·.oneCell') = true) := hide (hX ▸ one_bv _)
    have B6 := (unhide HB5).trans (b6.mono (unhide HB5).size)
    have b7 : Below w6.heap.size w6 (w6.alloc (.cells X.toArray 27)) := (Below.refl _ _).alloc (Nat.le_refl _) _
    have HX7 := hide (RowAt.new w6 27 X)
    have HD7 := hide (((unhide HD5).only (Only.of_below (p := fun _ => False) b6) id).only (Only.of_below (p := fun _ => False) b7) id)
    have HB7 := hide (B6.trans (b7.mono B6.size))
    have HGX : Hid (g < w6.heap.size) := hide (Nat.lt_of_lt_of_le (unhide HD5).lt b6.size)
    have HXE := hide hX
    obtain ⟨XA, hXA⟩ : ∃ A, X.toArray = A := ⟨_, rfl⟩
    have HXA := hide hXA
    rw [hXA] at HX7 HD7 HB7 HXO ⊢
    have HXS' : Hid (XA.size = 32) := hide (by rw [← hXA, List.size_toArray, unhide HXS])
    clear b6 B6 b7 HD5 HSM hX hXA
    have HCL := hide (clone_made g (stW 0) la _ rfl (unhide HD7))
    go_wp2_with (first
      | (refine wpList_store_new rfl 27 _ _ rfl XA rfl rfl (by rw [z27, unhide HXS']) (by rw [unhide HXS', unhide HZS]) (unhide HXO) ?_))
    obtain ⟨gx, hgx⟩ : ∃ n, w6.heap.size = n := ⟨_, rfl⟩
    have HS7 : Hid ((w6.alloc (.cells XA 27)).heap.size = gx + 1) := hide (by rw [size_alloc, hgx])
    rw [hgx] at HX7 HGX ⊢
    clear hgx
    generalize w6.alloc (.cells XA 27) = w7 at *
    refine Calls.mono (unhide HCL) ?_
    rintro e w8 ⟨ge, rfl, hge, d8, b8⟩
    have hge' : gx < ge := by have := unhide HS7; omega
    have B8 := (unhide HB7).trans (b8.mono (unhide HB7).size)
    have HE8 := hide d8
    have D8 := (unhide HD7).only (Only.of_below (p := fun _ => False) b8) id
    have X8 := (unhide HX7).only (Only.of_below (p := fun _ => False) b8) id
    have V8 := (unhide HB).call B8
    have L9 := LL.one V8
    have b9 : Below w8.heap.size w8 (w8.alloc (.cells #[.slice ab nb cb] 22)) := (Below.refl _ _).alloc (Nat.le_refl _) _
    have B9 := B8.trans (b9.mono B8.size)
    have D9 : Dg (w8.alloc (.cells #[.slice ab nb cb] 22)) g (stW 0) la := D8.only (Only.of_below (p := fun _ => False) b9) id
    have HE9 := hide (d8.only (Only.of_below (p := fun _ => False) b9) id)
    have HX9 := hide (X8.only (Only.of_below (p := fun _ => False) b9) id)
    have hF9 : LF (.slice (some ⟨w8.heap.size, 0, none⟩) 1 1) [(.slice ab nb cb, lb)] (· = g) := by
      have hgl := D8.lt
      refine ⟨fun _ k hk e => by simp [Value.ownBlock] at hk; omega, fun x hx hne => ?_⟩
      obtain rfl := List.mem_singleton.1 hx
      exact byt_off (unhide HB) hne (fun k hk => by have := unhide HG; omega)
    have HAD := hide (add_all g (stW 0) la _ _ _ ((unhide HT).below B9) (by have := unhide H2; have := unhide HG; omega) rfl (stW_32 0 (by omega)) D9 (unhide H8A) L9 hF9 (fun x hx => by obtain rfl := List.mem_singleton.1 hx; exact unhide H8B) (by have := unhide HLEN; simp [flat]; omega))
    have HB9 := hide B9
    have HGE := hide hge'
    clear b8 B8 D8 d8 X8 V8 L9 b9 B9 D9 hF9 hge hge' HCL HD7 HX7 HE8
    go_wp2_with fail
    generalize w8.alloc (.cells #[.slice ab nb cb] 22) = w9 at *
    refine Calls.mono (unhide HAD) ?_
    rintro e w10 ⟨rfl, d10, o10⟩
    rw [show la ++ flat [(Value.slice ab nb cb, lb)] = la ++ lb by simp [flat]] at d10
    have hgl : g < gx := unhide HGX
    have hgxe : gx < ge := unhide HGE
    have E10 := (unhide HE9).only o10 (by omega)
    have X10 := (unhide HX9).only o10 (by omega)
    have B10 := (unhide HB9).trans (o10.below (unhide HB9).size (fun k hk => by have := unhide HG; omega))
    have V10 := (unhide HC).call B10
    have L11 := LL.one V10
    have b11 : Below w10.heap.size w10 (w10.alloc (.cells #[.slice ac nc cc] 22)) := (Below.refl _ _).alloc (Nat.le_refl _) _
    have B11 := B10.trans (b11.mono B10.size)
    have HD11 := hide (d10.only (Only.of_below (p := fun _ => False) b11) id)
    have E11 : Dg (w10.alloc (.cells #[.slice ac nc cc] 22)) ge (stW 0) la := E10.only (Only.of_below (p := fun _ => False) b11) id
    have HX11 := hide (X10.only (Only.of_below (p := fun _ => False) b11) id)
    have hF11 : LF (.slice (some ⟨w10.heap.size, 0, none⟩) 1 1) [(.slice ac nc cc, lc)] (· = ge) := by
      have hgl := E10.lt
      refine ⟨fun _ k hk e => by simp [Value.ownBlock] at hk; omega, fun x hx hne => ?_⟩
      obtain rfl := List.mem_singleton.1 hx
      exact byt_off (unhide HC) hne (fun k hk => by have := unhide HG; omega)
    have HAD2 := hide (add_all ge (stW 0) la _ _ _ ((unhide HT).below B11) (by have := unhide H2; have := unhide HG; omega) rfl (stW_32 0 (by omega)) E11 (unhide H8A) L11 hF11 (fun x hx => by obtain rfl := List.mem_singleton.1 hx; exact unhide H8C) (by have := unhide HLEN; simp [flat]; omega))
    have HB11 := hide B11
    clear d10 o10 E10 X10 B10 V10 L11 b11 B11 E11 hF11 HAD HE9 HX9 hgl hgxe
    go_wp2_with fail
    generalize w10.alloc (.cells #[.slice ac nc cc] 22) = w11 at *
    refine Calls.mono (unhide HAD2) ?_
    rintro e w12 ⟨rfl, d12, o12⟩
    rw [show la ++ flat [(Value.slice ac nc cc, lc)] = la ++ lc by simp [flat]] at d12
    have hgl : g < gx := unhide HGX
    have hgxe : gx < ge := unhide HGE
    have HE12 := hide d12
    have HD12 := hide ((unhide HD11).only o12 (by omega))
    have HX12 := hide ((unhide HX11).only o12 (by omega))
    have HB12 := hide ((unhide HB11).trans (o12.below (unhide HB11).size (fun k hk => by have := unhide HG; omega)))
    clear d12 o12 HAD2 HD11 HX11 hgl hgxe
    -- what the last line's calls say, in any world behind this one
    obtain ⟨X2, hX2⟩ : ∃ X, bv (sumL (stW 0) (la ++ lb)) = X := ⟨_, rfl⟩
    obtain ⟨X3, hX3⟩ : ∃ X, bv (sumL (stW 0) (la ++ lc)) = X := ⟨_, rfl⟩
    have K1 := hide (p := ∀ W' n, n = W'.heap.size → Below w12.heap.size w12 W' → Calls Tryd.prog 12 #[.slice (some ⟨n, 0, none⟩) 1 1] (W'.alloc (.cells #[.slice aa na ca] 22)) fun e w' => e = .returned (.agg X.toArray) ∧ Below (W'.alloc (.cells #[.slice aa na ca] 22)).heap.size (W'.alloc (.cells #[.slice aa na ca] 22)) w') (by
      intro W' n hn hb
      subst hn
      have B := (unhide HB12).trans (hb.mono (unhide HB12).size)
      have B' := B.alloc B.size (.cells #[.slice aa na ca] 22)
      have := of_any _ _ _ ((unhide HT).below B') (LL.one ((unhide HA).call B)) (fun x hx => by obtain rfl := List.mem_singleton.1 hx; exact unhide H8A) (by have := unhide HLEN; simp [flat]; omega)
      rw [show flat [(Value.slice aa na ca, la)] = la by simp [flat], unhide HXE] at this
      exact this)
    have K2 := hide (p := ∀ W' w'' n, n = W'.heap.size → Below w12.heap.size w12 W' → Below (W'.alloc (.cells #[.slice aa na ca, .slice ab nb cb] 22)).heap.size (W'.alloc (.cells #[.slice aa na ca, .slice ab nb cb] 22)) w'' → Calls Tryd.prog 12 #[.slice (some ⟨n, 0, none⟩) 2 2] w'' fun e w' => e = .returned (.agg X2.toArray) ∧ Below w''.heap.size w'' w') (by
      intro W' w'' n hn hb hb2
      subst hn
      have B := (unhide HB12).trans (hb.mono (unhide HB12).size)
      have B' := B.alloc B.size (.cells #[.slice aa na ca, .slice ab nb cb] 22)
      have B'' := B'.trans (hb2.mono B'.size)
      have := of_any _ _ _ ((unhide HT).below B'') ((LL.two ((unhide HA).call B) ((unhide HB).call B)).call hb2) (fun x hx => by
          rcases List.mem_cons.1 hx with rfl | hx
          · exact unhide H8A
          · obtain rfl := List.mem_singleton.1 hx
            exact unhide H8B) (by have := unhide HLEN; simp [flat]; omega)
      rw [show flat [(Value.slice aa na ca, la), (Value.slice ab nb cb, lb)] = la ++ lb by simp [flat], hX2] at this
      exact this)
    have K3 := hide (p := ∀ W' w'' n, n = W'.heap.size → Below w12.heap.size w12 W' → Below (W'.alloc (.cells #[.slice aa na ca, .slice ac nc cc] 22)).heap.size (W'.alloc (.cells #[.slice aa na ca, .slice ac nc cc] 22)) w'' → Calls Tryd.prog 12 #[.slice (some ⟨n, 0, none⟩) 2 2] w'' fun e w' => e = .returned (.agg X3.toArray) ∧ Below w''.heap.size w'' w') (by
      intro W' w'' n hn hb hb2
      subst hn
      have B := (unhide HB12).trans (hb.mono (unhide HB12).size)
      have B' := B.alloc B.size (.cells #[.slice aa na ca, .slice ac nc cc] 22)
      have B'' := B'.trans (hb2.mono B'.size)
      have := of_any _ _ _ ((unhide HT).below B'') ((LL.two ((unhide HA).call B) ((unhide HC).call B)).call hb2) (fun x hx => by
          rcases List.mem_cons.1 hx with rfl | hx
          · exact unhide H8A
          · obtain rfl := List.mem_singleton.1 hx
            exact unhide H8C) (by have := unhide HLEN; simp [flat]; omega)
      rw [show flat [(Value.slice aa na ca, la), (Value.slice ac nc cc, lc)] = la ++ lc by simp [flat], hX3] at this
      exact this)
    have KS2 := hide (p := ∀ W', Below w12.heap.size w12 W' → Calls Tryd.prog 19 #[.pointer (some ⟨g, 0, none⟩)] W' fun e w' => e = .returned (.agg X2.toArray) ∧ Below W'.heap.size W' w') (by
      intro W' hb
      have B := (unhide HB12).trans (hb.mono (unhide HB12).size)
      have := sum_any g (stW 0) (la ++ lb) W' ((unhide HT).below B) rfl (stW_32 0 (by omega)) ((unhide HD12).only (Only.of_below (p := fun _ => False) hb) id) (by have := unhide HLEN; rw [List.length_append]; omega)
      rw [hX2] at this
      exact this)
    have KS3 := hide (p := ∀ W', Below w12.heap.size w12 W' → Calls Tryd.prog 19 #[.pointer (some ⟨ge, 0, none⟩)] W' fun e w' => e = .returned (.agg X3.toArray) ∧ Below W'.heap.size W' w') (by
      intro W' hb
      have B := (unhide HB12).trans (hb.mono (unhide HB12).size)
      have := sum_any ge (stW 0) (la ++ lc) W' ((unhide HT).below B) rfl (stW_32 0 (by omega)) ((unhide HE12).only (Only.of_below (p := fun _ => False) hb) id) (by have := unhide HLEN; rw [List.length_append]; omega)
      rw [hX3] at this
      exact this)
    have KW := hide (p := ∀ W', Below w12.heap.size w12 W' → Calls Tryd.prog 10 #[] W' fun e w' => e = .returned (.bool true) ∧ Below W'.heap.size W' w') (fun W' hb => awake_any W' ((unhide HT).below ((unhide HB12).trans (hb.mono (unhide HB12).size))))
    have q1 := eq_sum (sumL (stW 0) la) (sumL_len _ _)
    have q2 := eq_sum (sumL (stW 0) (la ++ lb)) (sumL_len _ _)
    have q3 := eq_sum (sumL (stW 0) (la ++ lc)) (sumL_len _ _)
    rw [unhide HXE] at q1
    rw [hX2] at q2
    rw [hX3] at q3
    have hi : (Tryd.prog.info? 27).map (·.size) = some X.length := by rw [unhide HXS]; exact z27
    have hu := Tryd.underlying27
    have HXX : Hid (w12.heap[gx]? = some (.cells X.toArray 27 (0, 0))) := hide ((unhide HX12).arr (by simp))
    have hst : KA w12 w12 gx X := ⟨fun j v hj => by
      have := (unhide HX12).cell j
      rw [Nat.zero_add]
      exact this.trans hj, Below.refl _ _⟩
    have hk0 : Below w12.heap.size w12 w12.drew := (Below.refl _ _).drew
    clear hX2 hX3 HX12 HXX HXE HXO HXS HXS' HGX HGE HB11 HB9 HB7 HB5 HB4 HS7 HXA HLEN HD12 HE12 HA HB HC H8A H8B H8C HT hz HZS
    go_wp2_with fail
    go_region_held3 (fun w' => w'.rangeAt gx 0 X ∧ Below w12.heap.size w12 w')
      (first | exact KA.call hst (by assumption) | exact KA.call hst (bal (by assumption) _))
      (first
        | (go_at_call 12; (fail_if_success (have := k13)); with_reducible refine Calls.mono (unhide K1 w12.drew _ (by first | rfl | simp [go_sem]) hk0) ?_; rintro e w13 ⟨rfl, b13⟩; have k13 := bcall (bal hk0 _) b13)
        | (go_at_call 19; (fail_if_success (have := k14)); with_reducible refine Calls.mono (unhide KS2 w13 k13) ?_; rintro e w14 ⟨rfl, b14⟩; have k14 := bcall k13 b14)
        | (go_at_call 19; (fail_if_success (have := k14)); with_reducible refine Calls.mono (unhide KS2 (w13.alloc _) (bal k13 _)) ?_; rintro e w14 ⟨rfl, b14⟩; have k14 := bcall (bal k13 _) b14)
        | (go_at_call 12; (fail_if_success (have := k15)); (have _t := (b14 : Below w13.heap.size w13 w14)); clear _t; with_reducible refine Calls.mono (unhide K2 w14 _ _ rfl k14 (Below.refl _ _)) ?_; rintro e w15 ⟨rfl, b15⟩; have k15 := bcall (bal k14 _) b15)
        | (go_at_call 12; (fail_if_success (have := k15)); with_reducible refine Calls.mono (unhide K2 w13 w14 _ rfl k13 b14) ?_; rintro e w15 ⟨rfl, b15⟩; have k15 := bcall k14 b15)
        | (go_at_call 19; with_reducible refine Calls.mono (unhide KS3 w15 k15) ?_; rintro e w16 ⟨rfl, b16⟩; have k16 := bcall k15 b16)
        | (go_at_call 19; with_reducible refine Calls.mono (unhide KS3 (w15.alloc _) (bal k15 _)) ?_; rintro e w16 ⟨rfl, b16⟩; have k16 := bcall (bal k15 _) b16)
        | (go_at_call 12; (have _t := (b16 : Below w15.heap.size w15 w16)); clear _t; with_reducible refine Calls.mono (unhide K3 w16 _ _ rfl k16 (Below.refl _ _)) ?_; rintro e w17 ⟨rfl, b17⟩; have k17 := bcall (bal k16 _) b17)
        | (go_at_call 12; with_reducible refine Calls.mono (unhide K3 w15 w16 _ rfl k15 b16) ?_; rintro e w17 ⟨rfl, b17⟩; have k17 := bcall k16 b17)
        | (go_at_call 10; with_reducible refine Calls.mono (unhide KW w17 k17) ?_; rintro e w18 ⟨rfl, b18⟩; have k18 := bcall k17 b18))
    all_goals go_wp2_with fail
    all_goals go_ret
    all_goals exact ⟨rfl, bcall (unhide HB12) (by assumption)⟩
  · have HAW := hide (awake_any w1 ((unhide HT).below (unhide HB1)))
    go_wp2_with fail
    refine Calls.mono (unhide HAW) ?_
    rintro e w3 ⟨rfl, b3⟩
    go_wp2_with fail
    go_ret
    exact ⟨rfl, (unhide HB1).trans (b3.mono (unhide HB1).size)⟩

theorem contract (H : Type) (enc : TypeId × Value → H) (W : World) (base : Nat) (args : Array Value) (ds gs : List (DataW H)) (before : List MemPlace)
    (hval : ∀ (j : Nat) t v, Tryd.f7.params[j]? = some t → args[j]? = some v → Value.okWide Tryd.prog W .any base t v)
    (hW : DataW.Whole enc Tryd.prog Tryd.f7.params.toList Rows.hashMoreSpec.vars false W args.toList ds gs before) (hL : laidMetH Tryd.prog Rows.hashMoreRow.laid W) :
    Calls Tryd.prog 7 args W fun e W' => ∃ v, e = .returned v ∧ Rows.hashMoreSpec.post enc Tryd.prog Tryd.f7 false true false false W args v W' := by
  have hT : Tabs W := tabs_of hL
  have hW' := hW
  obtain ⟨p, q, hA0, hV, rfl, hfz, hnd⟩ := hW
  have hA : DataW.TrodAll enc Tryd.prog W 0 (fun _ => true) true Tryd.f7.params.toList args.toList ds p := hA0
  rw [Tryd.params7] at hA hval
  obtain ⟨v0, vs0, d0, ds0, p0, q0, hargs, rfl, rfl, h0, r0⟩ := trodAll_cons hA
  obtain ⟨v1, vs1, d1, ds1, p1, q1, rfl, rfl, rfl, h1, r1⟩ := trodAll_cons r0
  obtain ⟨v2, vs2, d2, ds2, p2, q2, rfl, rfl, rfl, h2, r2⟩ := trodAll_cons r1
  obtain ⟨rfl, rfl, rfl⟩ := trodAll_nil r2
  obtain rfl : args = #[v0, v1, v2] := by cases args; simp_all
  obtain ⟨rfl, rfl⟩ := trodVars_none hV
  have lt0 : ∀ x ∈ p0, x.block < W.heap.size := by obtain ⟨m, hm⟩ := h0; exact DataW.trod_lt m _ _ _ hm
  have lt1 : ∀ x ∈ p1, x.block < W.heap.size := by obtain ⟨m, hm⟩ := h1; exact DataW.trod_lt m _ _ _ hm
  have lt2 : ∀ x ∈ p2, x.block < W.heap.size := by obtain ⟨m, hm⟩ := h2; exact DataW.trod_lt m _ _ _ hm
  obtain ⟨l0, hY0, h2560⟩ := open_bytes (hval 0 22 v0 rfl rfl) h0
  obtain ⟨l1, hY1, h2561⟩ := open_bytes (hval 1 22 v1 rfl rfl) h1
  obtain ⟨l2, hY2, h2562⟩ := open_bytes (hval 2 22 v2 rfl rfl) h2
  clear hA0
  refine (walk v0 v1 v2 l0 l1 l2 W hT hY0 hY1 hY2 h2560 h2561 h2562).mono fun e W' ⟨he, bel⟩ => ?_
  subst he
  exact ⟨_, rfl, _, _, _, [], _, [], hW', trodAll_mk1 (shut_bool Tryd.underlying4 _), (trodAll_cons_mk (Below.trod laidOut (by kernel_rfl) (of_decide_eq_true (by kernel_rfl)) h0 bel lt0) (trodAll_cons_mk (Below.trod laidOut (by kernel_rfl) (of_decide_eq_true (by kernel_rfl)) h1 bel lt1) (trodAll_cons_mk (Below.trod laidOut (by kernel_rfl) (of_decide_eq_true (by kernel_rfl)) h2 bel lt2) trodAll_mk0))), rfl, bel.frame _, fun h => by cases h⟩

set_option maxRecDepth 100000 in
theorem laid_here (os : Os) : laidMet Tryd.prog Rows.hashMoreRow.laid ((laidWorld os).forCall (fun _ _ => 0) ⟨#[], #[.slice none 0 0, .slice none 0 0, .slice none 0 0], []⟩).memory :=
  laidMet_of_run' 8 (by kernel_rfl) (by kernel_rfl)
theorem reads (os : Os) {H : Type} (enc : TypeId × Value → H) : ∃ places, DataW.whole enc Tryd.prog ((laidWorld os).forCall (fun _ _ => 0) ⟨#[], #[.slice none 0 0, .slice none 0 0, .slice none 0 0], []⟩).memory Tryd.f7.params.toList Rows.hashMoreSpec.vars false (#[.slice none 0 0, .slice none 0 0, .slice none 0 0] : Array Value).toList 8 = some ([.nil, .nil, .nil], [], places) :=
  ⟨[], by kernel_rfl⟩

set_option maxRecDepth 100000 in
theorem lifted (os : Os) (started : os.Started) (H : Type) (enc : TypeId × Value → H) (F : Stop.Interp) :
    ReturnsInHanded {} Tryd.checked os 7 .any ((OpenSpec.ofChange Rows.hashMoreSpec).preRow enc Tryd.prog Tryd.f7 Rows.hashMoreRow.domain false Rows.hashMoreRow.laid) (((OpenSpec.ofChange Rows.hashMoreSpec).at F).post enc Tryd.prog Tryd.f7 false true false false) := by
  obtain ⟨places, hx⟩ := reads os enc
  refine returnsInHanded_of_row (C := Tryd.checked) (s := OpenSpec.ofChange Rows.hashMoreSpec) own started (by kernel_rfl) Tryd.func7
    (witness_row_at (enc := enc) (C := Tryd.checked) false (laidWorld os) #[.slice none 0 0, .slice none 0 0, .slice none 0 0] rfl (by kernel_rfl) (by kernel_rfl) (by kernel_rfl)
      (OpenSpec.preRow_of_cond 8 hx (by kernel_rfl) (fun k hk => by cases hk) (by kernel_rfl) (laid_here os))) ?_
  intro W base args ds gs before hval hW _ _ _ hL _ _
  exact contract H enc W base args ds gs before hval hW hL

theorem said : Rows.HashMoreSaid :=
  OpenClaim.holds_of_cond 7 Tryd.f7 rfl rfl rfl rfl rfl rfl rfl ⟨rfl, rfl, rfl, rfl, rfl⟩ rfl rfl rfl rfl rfl (by kernel_rfl) Tryd.func7 (by kernel_rfl)
    (of_decide_eq_true (by kernel_rfl)) (by unfold Func.isWrapper; first | (rw [if_pos (by decide +kernel)]; kernel_rfl) | (rw [if_neg (by decide +kernel)]; exact ⟨rfl, rfl⟩))
    (fun os started H enc _ F => by rw [OpenClaim.pre_eq_preRow]; exact lifted os started H enc F)

theorem plain (f : FuncId) (fn : Func) (hf : Tryd.pinned.checked.prog.funcNamed "sealskin/sealskinlaw07.HashMore" = some f) (hfn : Tryd.pinned.checked.prog.funcs[f]? = some fn) :
    false = Tryd.pinned.checked.prog.looks [] ∧ ∀ (j : Nat) t, fn.params[j]? = some t → Tryd.pinned.checked.prog.wantsStandIn t = false := by
  obtain rfl : f = 7 := Option.some.inj ((show Tryd.prog.funcNamed "sealskin/sealskinlaw07.HashMore" = some 7 by kernel_rfl).symm.trans hf) |>.symm
  obtain rfl : fn = Tryd.f7 := (Option.some.inj (Tryd.func7.symm.trans hfn)).symm
  refine ⟨by kernel_rfl, fun j t ht => ?_⟩
  rw [Tryd.params7] at ht
  obtain rfl : t = 22 := by simpa using Array.mem_of_getElem? ht
  exact (show Tryd.prog.wantsStandIn 22 = false by kernel_rfl)

theorem proved : Rows.HashMoreCardSaid :=
  Claim7.holds_tied_plain_at .later [] _ _ _ _ said (fun _ h => by cases h) (by kernel_rfl) (fun _ h => by cases h) hashMore_row_tie rfl ⟨rfl, rfl⟩ (by kernel_rfl) rfl plain (by kernel_rfl)
#print axioms proved

end Go.Proofs.YtlgbkkfkobijpaaDoor.more
