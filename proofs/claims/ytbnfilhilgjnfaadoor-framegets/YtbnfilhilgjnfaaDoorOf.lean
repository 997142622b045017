/- The digest of bytes, one behind the other. -/
import Derived.Test.YtbnfilhilgjnfaaDoorSum
import Derived.Test.YtbnfilhilgjnfaaDoorStartB
namespace Go.Proofs.YtbnfilhilgjnfaaDoor
set_option linter.unusedVariables false
set_option linter.unusedSimpArgs false
open Go.ChangeShapes Go.WideShapes Go.ChangeAt Go.RowKit

theorem Only.byt' {p : Nat → Prop} {a b : World} (h : Only p a b) {v : Value} {l : List Nat} (hb : Byt a v l) (hv : l ≠ [] → Off v p) : Byt b v l := by
  by_cases hl : l = []
  · subst hl
    rcases hb with hb | ⟨ad, cap, rfl, h1, h2, h3⟩
    · exact .inl hb
    · exact .inr ⟨ad, cap, rfl, h1, h2, fun i y hy => by simp at hy⟩
  · exact h.byt hb (hv hl)
theorem byt_off {w : World} {v : Value} {l : List Nat} {p : Nat → Prop} (hb : Byt w v l) (hl : l ≠ []) (hp : ∀ k, p k → w.heap.size ≤ k) : Off v p := by
  intro k hk hpk
  rcases hb with ⟨rfl, h⟩ | ⟨ad, cap, rfl, h1, h2, h3⟩
  · exact hl h
  · obtain ⟨y, t, rfl⟩ := List.exists_cons_of_ne_nil hl
    have := lt_of_cell (h3 0 y rfl)
    rw [add_block] at this
    have e : ad.block = k := by simpa [Value.ownBlock] using hk
    have := hp k hpk
    omega

/-- lists of bytes in memory, which none of these blocks bears -/
def LF (v : Value) (P : List (Value × List Nat)) (p : Nat → Prop) : Prop := (P ≠ [] → Off v p) ∧ ∀ x ∈ P, x.2 ≠ [] → Off x.1 p
theorem LL.only' {p : Nat → Prop} {w w' : World} {v : Value} {P : List (Value × List Nat)} (h : LL w v P) (ho : Only p w w') (hp : LF v P p) : LL w' v P := by
  obtain ⟨a, cap, rfl, hc, h1⟩ := h
  refine ⟨a, cap, rfl, hc, fun i u l hi => ?_⟩
  obtain ⟨⟨b, rfl, h2⟩, h3⟩ := h1 i u l hi
  have hne : P ≠ [] := fun e => by subst e; simp at hi
  exact ⟨⟨b, rfl, ho.cell (by rw [add_block]; exact hp.1 hne _ rfl) h2⟩, ho.byt' h3 (hp.2 _ (List.mem_of_getElem? hi))⟩
theorem LL.call {w w' : World} {v : Value} {P : List (Value × List Nat)} (h : LL w v P) (hb : Below w.heap.size w w') : LL w' v P := by
  obtain ⟨a, cap, rfl, hc, h1⟩ := h
  refine ⟨a, cap, rfl, hc, fun i u l hi => ?_⟩
  obtain ⟨⟨b, rfl, h2⟩, h3⟩ := h1 i u l hi
  exact ⟨⟨b, rfl, cell_keep hb (lt_of_cell h2) h2⟩, h3.call hb⟩
theorem LL.far {w : World} {v : Value} {P : List (Value × List Nat)} (h : LL w v P) {p : Nat → Prop} (hp : ∀ k, p k → w.heap.size ≤ k) : LF v P p := by
  obtain ⟨a, cap, rfl, hc, h1⟩ := h
  refine ⟨fun hne k hk hpk => ?_, fun x hx hne => ?_⟩
  · obtain ⟨⟨u, l⟩, t, rfl⟩ := List.exists_cons_of_ne_nil hne
    obtain ⟨⟨b, rfl, h2⟩, _⟩ := h1 0 u l rfl
    have := lt_of_cell h2
    rw [add_block] at this
    have e : b.block = k := by simpa [Value.ownBlock] using hk
    have := hp k hpk
    omega
  · obtain ⟨i, hi⟩ := List.getElem?_of_mem hx
    exact byt_off (h1 i x.1 x.2 hi).2 hne hp

set_option maxHeartbeats 1000000 in
theorem take_nil (g : Nat) (a : Option Addr) (c : Nat) (w : World) : Calls Tryd.prog 84 #[.pointer (some ⟨g, 0, none⟩), .slice a 0 c] w fun e w' => e = .returned (.tuple #[]) ∧ w = w' := by
  go_enter Tryd.func84, Tryd.ntmps84
  go_wp2_with fail
  go_loopw [1] (fun s wr => s = .slice a 0 c ∧ w = wr) (fun _ _ => 0)
  case atStart => exact ⟨rfl, rfl⟩
  case round =>
    obtain ⟨rfl, rfl⟩ := hrel
    go_wp2_with fail
    go_end0
    exact ⟨rfl, rfl⟩

set_option maxRecDepth 100000 in
set_option maxHeartbeats 4000000 in
theorem add_all (g : Nat) (h0 all : List Nat) (P : List (Value × List Nat)) (v : Value) (w : World) (hT : Tabs w) (hg2 : 7 ≤ g) (hh : h0.length = 8) (h32 : W32 h0) (hd : Dg w g h0 all) (ha8 : U8 all) (hv : LL w v P) (hoff : LF v P (· = g)) (hP8 : ∀ x ∈ P, U8 x.2) (hbig : all.length + (flat P).length ≤ 1000000000) :
    Calls Tryd.prog 74 #[.pointer (some ⟨g, 0, none⟩), v] w
      fun e w' => e = .returned (.int .i64 0) ∧ Dg w' g h0 (all ++ flat P) ∧ Only (· = g) w w' := by
  have HM := hide (let ⟨nf, h1, _⟩ := hd; made_dg g nf h0 all w hh h1)
  have HT := hide hT
  have HD := hide hd
  have HV := hide hv
  have HF := hide hoff
  have H8 := hide hP8
  obtain ⟨a, cap, rfl, hcap, _⟩ := hv
  obtain ⟨N, hN⟩ : ∃ N, P.length = N := ⟨_, rfl⟩
  rw [hN]
  have HNN := hide hN
  have hNm : N ≤ 9223372036854775807 := by have := hcap.1; have := hcap.2; unfold maxLen at this; omega
  clear hT hd hoff hP8 hcap hN
  go_enter Tryd.func74, Tryd.ntmps74
  go_wp2_with fail
  refine Calls.mono (unhide HM) ?_
  rintro e w1 ⟨rfl, rfl⟩
  go_wp2_with fail
  go_loopw [12] (fun s wr => ∃ k : Nat, k ≤ N ∧ s = .int .i64 (k : Int) ∧ Hid (Dg wr g h0 (all ++ flat (P.take k)) ∧ Only (· = g) w wr)) (fun s _ => (N - intOf s).toNat)
  case atStart => exact ⟨0, by omega, rfl, by simpa [flat] using unhide HD, Only.refl _ _⟩
  case round =>
    obtain ⟨k, hk, rfl, HB⟩ := hrel
    by_cases hlt : k < N
    · have hkP : k < P.length := by rw [unhide HNN]; exact hlt
      obtain ⟨⟨u, l⟩, hul⟩ : ∃ x, P[k]? = some x := ⟨_, List.getElem?_eq_getElem hkP⟩
      obtain ⟨d1, d2⟩ := unhide HB
      obtain ⟨a', cap', hav, _, hq⟩ := (unhide HV).only' d2 (unhide HF)
      obtain ⟨rfl, _, rfl⟩ : a = a' ∧ _ ∧ cap = cap' := by injection hav with h1 h2 h3; exact ⟨h1, h2, h3⟩
      obtain ⟨⟨b, rfl, hc⟩, hby⟩ := hq k u l hul
      have hmem := List.mem_of_getElem? hul
      have h8a : U8 (all ++ flat (P.take k)) := by
        intro y hy
        rcases List.mem_append.1 hy with hy | hy
        · exact ha8 y hy
        · simp only [flat, List.mem_flatten, List.mem_map] at hy
          obtain ⟨_, ⟨x, hx, rfl⟩, hy⟩ := hy
          exact unhide H8 x (List.mem_of_mem_take hx) y hy
      have eT : flat (P.take (k + 1)) = flat (P.take k) ++ l := by
        rw [List.take_succ_eq_append_getElem hkP, flat, List.map_append, List.flatten_append]
        have : P[k] = (u, l) := by rw [List.getElem?_eq_getElem hkP] at hul; exact Option.some.inj hul
        simp [flat, this]
      have hlen : (flat (P.take (k + 1))).length ≤ (flat P).length := by
        have : flat P = flat (P.take (k + 1)) ++ flat (P.drop (k + 1)) := by
          rw [flat, flat, flat, ← List.flatten_append, ← List.map_append, List.take_append_drop]
        rw [this, List.length_append]; omega
      have HTK : Hid (Calls Tryd.prog 84 #[.pointer (some ⟨g, 0, none⟩), u] wr fun e w' => e = .returned (.tuple #[]) ∧ Dg w' g h0 (all ++ flat (P.take k) ++ l) ∧ Only (· = g) wr w') := hide (by
        by_cases hl : l = []
        · subst hl
          obtain ⟨au, cu, rfl⟩ := byt_shape hby
          refine (take_nil g au cu wr).mono ?_
          rintro e w' ⟨rfl, rfl⟩
          exact ⟨rfl, by rw [List.append_nil]; exact d1, Only.refl _ _⟩
        · obtain ⟨nf, e1, e2⟩ := d1
          exact take_any g h0 (all ++ flat (P.take k)) l nf u wr ((unhide HT).only d2 (fun k hk => by omega)) hg2 hh h32 e1 e2 h8a hby ((unhide HF).2 _ hmem hl) (unhide H8 _ hmem) (by rw [eT, List.length_append] at hlen; rw [List.length_append]; omega))
      have HET := hide eT
      have HO := hide d2
      have hkN : (k : Int) < (N : Int) := by omega
      clear hul d1 d2 hq hby hmem h8a eT hlen hkP HB
      have HLT := hide hlt
      go_wp2_with fail
      refine Calls.mono (unhide HTK) ?_
      rintro e w2 ⟨rfl, t1, t2⟩
      have HB2 : Hid (Dg w2 g h0 (all ++ flat (P.take (k + 1))) ∧ Only (· = g) w w2) := hide ⟨by rw [unhide HET, ← List.append_assoc]; exact t1, (unhide HO).trans t2⟩
      clear t1 t2 HTK
      go_wp2_with fail
      go_roundw
      case rel => exact ⟨k + 1, by have := unhide HLT; omega, by go_num, HB2⟩
      case measure => have := unhide HLT; simp [intOf]; omega
    · have hk8 : k = N := by omega
      have hnn : ¬ (k : Int) < (N : Int) := by omega
      rw [List.take_of_length_le (by rw [unhide HNN]; omega)] at HB
      go_wp2_with fail
      go_ret
      exact ⟨rfl, (unhide HB).1, (unhide HB).2⟩

theorem kblk_nil : kblk [] = [] := rfl
set_option maxRecDepth 100000 in
set_option maxHeartbeats 4000000 in
theorem of_any (P : List (Value × List Nat)) (v : Value) (w : World) (hT : Tabs w) (hv : LL w v P) (hP8 : ∀ x ∈ P, U8 x.2) (hbig : (flat P).length ≤ 1000000000) :
    Calls Tryd.prog 72 #[v] w fun e w' => e = .returned (.agg (bv (sumL (stW 0) (flat P))).toArray) ∧ Below w.heap.size w w' := by
  have HV := hide hv
  have HT := hide hT
  have H8 := hide hP8
  have hz := zero27
  generalize hZ : (bv (List.replicate 32 0)).toArray = Z at hz
  have HZE := hide hZ
  have HZS : Hid (Z.size = 32) := hide (by rw [← hZ, List.size_toArray, bv_len, List.length_replicate])
  have hz5 := zero55
  generalize hZ5 : (dcells (List.replicate 8 0) (List.replicate 64 0) 0 0 false).toArray = Z5 at hz5
  have HZ5 : Hid (Z5.size = 75) := hide (by rw [← hZ5, List.size_toArray]; exact dcells_len _ _ _ _ _ (List.length_replicate ..) (List.length_replicate ..))
  have b1 : Below w.heap.size w (w.alloc (.cells Z 90)) := (Below.refl _ _).alloc (Nat.le_refl _) _
  have HR1 : Hid (RowAt (w.alloc (.cells Z 90)) w.heap.size 90 (bv (List.replicate 32 0))) := hide (hZ ▸ RowAt.new w 90 (bv (List.replicate 32 0)))
  have HB1 := hide b1
  have hs1 : Hid ((w.alloc (.cells Z 90)).heap.size = w.heap.size + 1) := hide (size_alloc _ _)
  have HST := hide (start_any (.slice none 0 0) [] (w.alloc (.cells Z 90)) (hT.below b1) (.inl ⟨rfl, rfl⟩) (by simp))
  clear hT hv hP8 hZ hZ5 b1
  go_enter Tryd.func72, Tryd.ntmps72
  go_wp2_with fail
  generalize w.alloc (.cells Z 90) = w1 at *
  refine Calls.mono (unhide HST) ?_
  rintro e w2 ⟨rfl, b2⟩
  obtain ⟨D, hD⟩ : ∃ D, (dcells (stW ([] : List Nat).length) (padK []) (kheld []) 0 true).toArray = D := ⟨_, rfl⟩
  have HDS : Hid (D.size = 75) := hide (by rw [← hD, List.size_toArray]; exact dcells_len _ _ _ _ _ rfl rfl)
  have HDO : Hid (D.all (·.oneCell') = true) := hide (by rw [← hD]; simp [dcells, u32v, bv, Value.oneCell'])
  have R3 := RowAt.new w2 107 (dcells (stW ([] : List Nat).length) (padK []) (kheld []) 0 true)
  rw [hD] at R3
  have D3 : Dg (w2.alloc (.cells D 107)) w2.heap.size (stW 0) [] := start_dg (key := []) (fun y hy => by cases hy) (by simp) R3
  rw [hD]
  have hs2 := b2.size
  have h1 := unhide hs1
  have b3 : Below w1.heap.size w1 (w2.alloc (.cells D 107)) := b2.alloc hs2 _
  have B3 : Below w.heap.size w (w2.alloc (.cells D 107)) := (unhide HB1).trans (b3.mono (by omega))
  have T3 := (unhide HT).below B3
  have V3 := (unhide HV).call B3
  have HAD := hide (add_all w2.heap.size (stW 0) [] P v (w2.alloc (.cells D 107)) T3 (by have := (unhide HT).2.lt; omega) rfl (stW_32 0 (by omega)) D3 (fun y hy => by cases hy) V3
    ⟨fun hne => ((unhide HV).far (p := (· = w2.heap.size)) (fun k hk => by omega)).1 hne, ((unhide HV).far (p := (· = w2.heap.size)) (fun k hk => by omega)).2⟩ (unhide H8) (by simpa using hbig))
  have HB3 := hide B3
  have HR3 := hide ((unhide HR1).below b3 (by omega))
  have HT3 := hide T3
  have HW2 : Hid (w.heap.size < w2.heap.size) := hide (by omega)
  clear R3 D3 b2 b3 B3 T3 V3 hD hs2 h1 hs1 HST HR1 HB1
  go_wp2_with (refine wpList_store_new rfl 107 _ _ rfl D rfl rfl (by rw [z55, unhide HDS]) (by rw [unhide HDS, unhide HZ5]) (unhide HDO) ?_)
  generalize w2.alloc (.cells D 107) = w3 at *
  refine Calls.mono (unhide HAD) ?_
  rintro e w4 ⟨rfl, d4, o4⟩
  rw [List.nil_append] at d4
  have B4 := (unhide HB3).trans (o4.below (unhide HB3).size (fun k hk => by have := unhide HW2; omega))
  have HSM := hide (sum_any w2.heap.size (stW 0) (flat P) w4 ((unhide HT).below B4) rfl (stW_32 0 (by omega)) d4 hbig)
  have HR4 := hide ((unhide HR3).only o4 (by have := unhide HW2; omega))
  have HB4 := hide B4
  clear d4 o4 B4 HAD HR3 HB3 HT3
  go_wp2_with fail
  refine Calls.mono (unhide HSM) ?_
  rintro e w5 ⟨rfl, b5⟩
  obtain ⟨E, hE⟩ : ∃ E, (bv (sumL (stW 0) (flat P))).toArray = E := ⟨_, rfl⟩
  rw [hE]
  have HE2 := hide (((unhide HR4).below b5 (unhide HR4).lt).arr (unhide HZE))
  have HES : Hid (E.size = 32) := hide (by rw [← hE, List.size_toArray, bv_len, sumL_len])
  have HEO : Hid (E.all (·.oneCell') = true) := hide (hE ▸ one_bv _)
  have HEE := hide hE
  have HB5 := hide ((unhide HB4).trans (b5.mono (unhide HB4).size))
  clear b5 HR4 HB4 HSM hE
  go_wp2_with (refine wpList_store_row rfl 90 _ _ rfl w.heap.size E rfl rfl 90 Z (unhide HE2) (by rw [z27, unhide HES]) (by rw [unhide HES, unhide HZS]) (unhide HEO) ?_)
  refine bodyPost_ret (results_cell_row Tryd.results72 _ _ w.heap.size 90 E (0, 0) _ rfl (setRow_heap _ _ _ _ _ _ (unhide HE2)) Tryd.underlying90 rfl (by rw [z27, unhide HES])) rfl ⟨?_, ?_⟩
  · rw [← unhide HEE]
  · exact Below.trans (unhide HB5) ⟨rfl, rfl, rfl, by simp [World.setRow], fun k hk => setRow_other _ _ _ _ (by omega)⟩
end Go.Proofs.YtbnfilhilgjnfaaDoor
