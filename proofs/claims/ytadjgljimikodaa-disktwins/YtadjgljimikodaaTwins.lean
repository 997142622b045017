/- For any calls the Go function sealskinlaw05.DiskTwins returns true, and its arguments read as they did. No condition. -/
import Derived.Test.YtadjgljimikodaaDosOwn
namespace Go.Proofs.Ytadjgljimikodaa.twins
set_option linter.unusedVariables false
set_option linter.unusedSimpArgs false
open Go.ChangeShapes Go.WideShapes Go.ChangeAt Go.RowKit Go.Joins

theorem run_append_two (d : DS) (L M : List Cl) : d.run (L ++ M) = (d.run L).run M := List.foldl_append
theorem run_past (d : DS) {L : List Cl} {k : Nat} (h : L.length ≤ k) : d.run (L.take k) = d.run L := by rw [List.take_of_length_le h]
def G4 (a b x y : Nat) : Nat → Nat := fun i => match i with | 0 => a | 1 => b | 2 => x | _ => y
def D4 (a b x y : DS) : Nat → DS := fun i => match i with | 0 => a | 1 => b | 2 => x | _ => y
theorem fam_set {X : Nat → Prop} {w : World} {G : Nat → Nat} {D D' : Nat → DS} (h : Fam X 4 w G D) (h0 : D 0 = D' 0) (h1 : D 1 = D' 1) (h2 : D 2 = D' 2) (h3 : D 3 = D' 3) : Fam X 4 w G D' :=
  h.cast (fun i _ => rfl) (fun i hi => match i, hi with | 0, _ => h0 | 1, _ => h1 | 2, _ => h2 | 3, _ => h3)

theorem out4 (w : World) (a0 a1 a2 b0 b1 b2 c0 c1 c2 d0 d1 d2 : Value) (W : World) (hW : (((w.alloc (.cells #[a0, a1, a2] 40)).alloc (.cells #[b0, b1, b2] 40)).alloc (.cells #[c0, c1, c2] 40)).alloc (.cells #[d0, d1, d2] 40) = W) :
    (Out W w.heap.size (fun j => match j with | 0 => a0 | 1 => a1 | _ => a2) ∧ Out W (w.heap.size + 1) (fun j => match j with | 0 => b0 | 1 => b1 | _ => b2) ∧ Out W (w.heap.size + 1 + 1) (fun j => match j with | 0 => c0 | 1 => c1 | _ => c2) ∧ Out W (w.heap.size + 1 + 1 + 1) (fun j => match j with | 0 => d0 | 1 => d1 | _ => d2)) ∧ Below w.heap.size w W ∧ w.heap.size + 1 + 1 + 1 < W.heap.size := by
  subst hW
  have s1 : (w.alloc (.cells #[a0, a1, a2] 40)).heap.size = w.heap.size + 1 := by simp
  have s2 : ((w.alloc (.cells #[a0, a1, a2] 40)).alloc (.cells #[b0, b1, b2] 40)).heap.size = w.heap.size + 1 + 1 := by simp
  have s3 : (((w.alloc (.cells #[a0, a1, a2] 40)).alloc (.cells #[b0, b1, b2] 40)).alloc (.cells #[c0, c1, c2] 40)).heap.size = w.heap.size + 1 + 1 + 1 := by simp
  have o1 := Out.fresh w a0 a1 a2
  have o2 := Out.fresh (w.alloc (.cells #[a0, a1, a2] 40)) b0 b1 b2
  have o3 := Out.fresh ((w.alloc (.cells #[a0, a1, a2] 40)).alloc (.cells #[b0, b1, b2] 40)) c0 c1 c2
  have o4 := Out.fresh (((w.alloc (.cells #[a0, a1, a2] 40)).alloc (.cells #[b0, b1, b2] 40)).alloc (.cells #[c0, c1, c2] 40)) d0 d1 d2
  rw [s1] at o2
  rw [s2] at o3
  rw [s3] at o4
  refine ⟨⟨?_, ?_, ?_, o4⟩, (((Below.refl _ _).alloc (Nat.le_refl _) _).alloc (by omega) _).alloc (by omega) _ |>.alloc (by omega) _, by simp⟩
  · exact o1.keep ((((Below.refl _ _).alloc (by omega) _).alloc (by omega) _).alloc (by omega) _)
  · exact o2.keep (((Below.refl _ _).alloc (by omega) _).alloc (by omega) _)
  · exact o3.keep ((Below.refl _ _).alloc (by omega) _)

set_option maxHeartbeats 8000000 in
theorem walk (a0 a1 a2 : Option Addr) (L0 L1 L2 : List Cl) (c0 c1 c2 : Nat) (w : World) (h0 : Dos w a0 L0) (h1 : Dos w a1 L1) (h2 : Dos w a2 L2) (hc0 : L0.length ≤ c0) (hc1 : L1.length ≤ c1) (hc2 : L2.length ≤ c2) (hm0 : c0 ≤ maxLen) (hm1 : c1 ≤ maxLen) (hm2 : c2 ≤ maxLen) :
    Calls Try.prog 7 #[.slice a0 L0.length c0, .slice a1 L1.length c1, .slice a2 L2.length c2] w fun e w' => e = .returned (.bool true) ∧ Below w.heap.size w w' := by
  obtain ⟨i0, hi, hz0, hz1, hz2⟩ := info_parts info34
  have S0 := hide (short_any a0 L0 c0 w h0 hc0 hm0)
  have S1 := hide (short_any a1 L1 c1 w h1 hc1 hm1)
  have S2 := hide (short_any a2 L2 c2 w h2 hc2 hm2)
  have KM := hide (lmade_any 4194304 a0 L0 c0 w h0 hc0 hm0 (by decide) (by decide))
  have H0 := hide h0
  have H1 := hide h1
  have H2 := hide h2
  unfold maxLen at hm0 hm1 hm2
  obtain ⟨n0, e0⟩ : ∃ n, L0.length = n := ⟨_, rfl⟩
  obtain ⟨n1, e1⟩ : ∃ n, L1.length = n := ⟨_, rfl⟩
  obtain ⟨n2, e2⟩ : ∃ n, L2.length = n := ⟨_, rfl⟩
  rw [e0] at hc0 S0 KM
  rw [e1] at hc1 S1
  rw [e2] at hc2 S2
  rw [e0, e1, e2]
  have N0 := hide e0
  have N1 := hide e1
  have N2 := hide e2
  clear h0 h1 h2 e0 e1 e2
  go_enter Try.func7, Try.ntmps7
  go_wp2_with fail
  refine (unhide S0).mono ?_
  rintro e w1 ⟨⟨r, rfl, hr0⟩, rfl⟩
  cases r
  · clear hr0
    go_wp2_with (go_at_call 12; refine (awake_any _).mono ?_; rintro e w' ⟨rfl, hb⟩)
    go_ret
    exact ⟨rfl, hb⟩
  have R0 := hide (hr0 rfl)
  clear hr0
  go_wp2_with fail
  refine (unhide S1).mono ?_
  rintro e w1 ⟨⟨r, rfl, hr1⟩, rfl⟩
  cases r
  · clear hr1
    go_wp2_with (go_at_call 12; refine (awake_any _).mono ?_; rintro e w' ⟨rfl, hb⟩)
    go_ret
    exact ⟨rfl, hb⟩
  have R1 := hide (hr1 rfl)
  clear hr1
  go_wp2_with fail
  refine (unhide S2).mono ?_
  rintro e w1 ⟨⟨r, rfl, hr2⟩, rfl⟩
  cases r
  · clear hr2
    go_wp2_with (go_at_call 12; refine (awake_any _).mono ?_; rintro e w' ⟨rfl, hb⟩)
    go_ret
    exact ⟨rfl, hb⟩
  have R2 := hide (hr2 rfl)
  clear hr2 S0 S1 S2
  have l0 : n0 ≤ 200 := by have := (unhide R0).1; rw [unhide N0] at this; exact this
  have l1 : n1 ≤ 200 := by have := (unhide R1).1; rw [unhide N1] at this; exact this
  have l2 : n2 ≤ 200 := by have := (unhide R2).1; rw [unhide N2] at this; exact this
  go_wp2_with fail
  refine (unhide KM).mono ?_
  clear KM
  rintro e w1 ⟨rfl, hat1, hb1⟩
  have h256 : ∀ L : List Cl, (∀ c ∈ L, ∀ y ∈ c.b, y < 256) → ((DS.start (Int.toNat 4194304)).run L).B256 := fun L hL => DS.run256 L _ (fun i _ y hy => by cases hy) hL
  have H256 := hide h256
  clear h256
  obtain ⟨d0, hd0⟩ : ∃ d0, DS.start (Int.toNat 4194304) = d0 := ⟨_, rfl⟩
  rw [hd0] at hat1 H256
  have HD0 := hide hd0
  clear hd0
  have hX1 : ∀ x, x < w.heap.size → x < w1.heap.size := fun x hx => Nat.lt_of_lt_of_le hx hb1.size
  have KC := hide (fam_clone _ 1 _ _ 0 (by decide) w.heap.size rfl w1 (Fam.one (AtX.of_at hat1)) hX1)
  have HB1 := hide hb1
  clear hat1 hb1 hX1
  go_wp2_with fail
  refine (unhide KC).mono ?_
  clear KC
  rintro e w2 ⟨rfl, hf2, hb2⟩
  have hB2 := (unhide HB1).trans (hb2.mono (unhide HB1).size)
  have KD := dosclone_any a0 L0 c0 w2 ((unhide H0).call hB2) (unhide R0).1
  rw [unhide N0] at KD
  have KD := hide KD
  have HF2 := hide hf2
  have HB2 := hide hB2
  clear hf2 hb2 hB2
  go_wp2_with fail
  refine (unhide KD).mono ?_
  clear KD
  rintro e w3 ⟨a3, cap3, rfl, ho3, hb3⟩
  have hB3 := (unhide HB2).trans (hb3.mono (unhide HB2).size)
  have hs23 := hb3.size
  have D3 := hide ((unhide H1).call hB3)
  have HB3 := hide hB3
  have HBL3 := hide hb3
  clear hB3 hb3
  have HLN1 : Hid ((clvs L1).length = n1 * 4) := hide (by rw [clvs_len, unhide N1])
  have HLN2 : Hid ((clvs L2).length = n2 * 4) := hide (by rw [clvs_len, unhide N2])
  go_wp2_with (at_builtin; refine wpList_append_src _ rfl _ _ 22 rfl w2.heap.size 34 i0 _ 4 48 Try.underlying22 hi hz0 hz1 hz2 rfl (by decide) _ _ _ rfl ho3 a1 n1 c1 (clvs L1) rfl (unhide HLN1) ?c6 (unhide D3).news (clvs_one (unhide D3).1) ?c3 ?c4 hs23 ?_)
  case c6 => intro q; have := (unhide D3).none_len q; rw [unhide N1] at this; exact this
  case c3 => unfold maxLen; omega
  case c4 => omega
  intro a4 cap4 w4 ho4 hg4
  have hb34 : Below w2.heap.size w2 w4 := (unhide HBL3).grown hg4 hs23 (fun k hk => (ho3.lt k hk).1)
  have hB4 := (unhide HB2).trans (hb34.mono (unhide HB2).size)
  have hok4 : ∀ c ∈ L0 ++ L1, ClOk w4 c := by
    intro c hc
    rcases List.mem_append.1 hc with hc | hc
    · exact ((unhide H0).1 c hc).call hB4
    · exact ((unhide H1).1 c hc).call hB4
  rw [← clvs_append] at ho4
  obtain ⟨hD4, hc4, hm4⟩ := Dos.of_own (by rw [List.length_append, unhide N0, unhide N1]) ho4 hok4
  have KX := lmade_any 4194304 a4 (L0 ++ L1) cap4 w4 hD4 (by rw [List.length_append, unhide N0, unhide N1]; exact hc4) hm4 (by decide) (by decide)
  rw [List.length_append, unhide N0, unhide N1, unhide HD0] at KX
  have KX := hide KX
  have hf4 := (unhide HF2).call hb34
  have HF4 := hide hf4
  have HB4 := hide hB4
  clear ho3 ho4 hg4 hok4 hD4 hc4 hm4 hf4 hB4 hb34 D3 HBL3 hs23 HB3
  go_wp2_with fail
  refine (unhide KX).mono ?_
  clear KX
  rintro e w5 ⟨rfl, hat5, hb5⟩
  have hX4 : ∀ x, x < w.heap.size → x < w4.heap.size := fun x hx => Nat.lt_of_lt_of_le hx (unhide HB4).size
  have HF5 := hide ((unhide HF4).add hX4 hat5 hb5)
  have hB5 := (unhide HB4).trans (hb5.mono (unhide HB4).size)
  have KD := dosclone_any a0 L0 c0 w5 ((unhide H0).call hB5) (unhide R0).1
  rw [unhide N0] at KD
  have KD := hide KD
  have HB5 := hide hB5
  clear hat5 hb5 hX4 hB5 HF4
  go_wp2_with fail
  refine (unhide KD).mono ?_
  clear KD
  rintro e w6 ⟨a6, cap6, rfl, ho6, hb6⟩
  have hB6 := (unhide HB5).trans (hb6.mono (unhide HB5).size)
  have hs56 := hb6.size
  have D6 := hide ((unhide H2).call hB6)
  have HBL6 := hide hb6
  clear hB6 hb6
  go_wp2_with (at_builtin; refine wpList_append_src _ rfl _ _ 22 rfl w5.heap.size 34 i0 _ 4 48 Try.underlying22 hi hz0 hz1 hz2 rfl (by decide) _ _ _ rfl ho6 a2 n2 c2 (clvs L2) rfl (unhide HLN2) ?c6 (unhide D6).news (clvs_one (unhide D6).1) ?c3 ?c4 hs56 ?_)
  case c6 => intro q; have := (unhide D6).none_len q; rw [unhide N2] at this; exact this
  case c3 => unfold maxLen; omega
  case c4 => omega
  intro a7 cap7 w7 ho7 hg7
  have hb57 : Below w5.heap.size w5 w7 := (unhide HBL6).grown hg7 hs56 (fun k hk => (ho6.lt k hk).1)
  have hB7 := (unhide HB5).trans (hb57.mono (unhide HB5).size)
  have hok7 : ∀ c ∈ L0 ++ L2, ClOk w7 c := by
    intro c hc
    rcases List.mem_append.1 hc with hc | hc
    · exact ((unhide H0).1 c hc).call hB7
    · exact ((unhide H2).1 c hc).call hB7
  rw [← clvs_append] at ho7
  obtain ⟨hD7, hc7, hm7⟩ := Dos.of_own (by rw [List.length_append, unhide N0, unhide N2]) ho7 hok7
  have KY := lmade_any 4194304 a7 (L0 ++ L2) cap7 w7 hD7 (by rw [List.length_append, unhide N0, unhide N2]; exact hc7) hm7 (by decide) (by decide)
  rw [List.length_append, unhide N0, unhide N2, unhide HD0] at KY
  have KY := hide KY
  have HF7 := hide ((unhide HF5).call hb57)
  have HB7 := hide hB7
  clear ho6 ho7 hg7 hok7 hD7 hc7 hm7 hB7 hb57 D6 HBL6 hs56 HF5
  go_wp2_with fail
  refine (unhide KY).mono ?_
  clear KY
  rintro e w8 ⟨rfl, hat8, hb8⟩
  have hX7 : ∀ x, x < w.heap.size → x < w7.heap.size := fun x hx => Nat.lt_of_lt_of_le hx (unhide HB7).size
  have hf8 : Fam (fun x => x < w.heap.size) 4 w8 (G4 w.heap.size w1.heap.size w4.heap.size w7.heap.size) (D4 (d0.run L0) (d0.run L0) (d0.run (L0 ++ L1)) (d0.run (L0 ++ L2))) :=
    ((unhide HF7).add hX7 hat8 hb8).cast (fun i hi => match i, hi with | 0, _ => rfl | 1, _ => rfl | 2, _ => rfl | 3, _ => rfl) (fun i hi => match i, hi with | 0, _ => rfl | 1, _ => rfl | 2, _ => rfl | 3, _ => rfl)
  have hB8 := (unhide HB7).trans (hb8.mono (unhide HB7).size)
  have HF8 := hide hf8
  have HB8 := hide hB8
  clear hat8 hb8 hX7 hf8 hB8 HF7
  generalize hdx : d0.run (L0 ++ L1) = dx at *
  generalize hdy : d0.run (L0 ++ L2) = dy at *
  generalize hda : d0.run L0 = da at *
  have HDX := hide (show da.run L1 = dx by rw [← hdx, ← hda, run_append_two])
  have HDY := hide (show da.run L2 = dy by rw [← hdy, ← hda, run_append_two])
  have HX256 : Hid dx.B256 := hide (by
    rw [← hdx]
    refine unhide H256 _ (fun c hc => ?_)
    rcases List.mem_append.1 hc with hc | hc
    · exact ((unhide H0).1 c hc).b256
    · exact ((unhide H1).1 c hc).b256)
  have HY256 : Hid dy.B256 := hide (by
    rw [← hdy]
    refine unhide H256 _ (fun c hc => ?_)
    rcases List.mem_append.1 hc with hc | hc
    · exact ((unhide H0).1 c hc).b256
    · exact ((unhide H2).1 c hc).b256)
  clear hdx hdy hda
  obtain ⟨mx, hmx, hm1', hm2'⟩ : ∃ mx : Nat, (if n1 < n2 then (n2 : Int) else (n1 : Int)) = (mx : Int) ∧ n1 ≤ mx ∧ n2 ≤ mx := by
    by_cases q : n1 < n2
    · exact ⟨n2, by rw [if_pos q], by omega, by omega⟩
    · exact ⟨n1, by rw [if_neg q], by omega, by omega⟩
  have hmx3 : mx ≤ 200 := by
    have : (mx : Int) ≤ 200 := by rw [← hmx]; split <;> omega
    omega
  go_wp2_with fail
  go_loopw [11, 50] (fun _ i wr => ∃ k : Nat, k ≤ mx ∧ i = .int .i64 k ∧ Fam (fun x => x < w.heap.size) 4 wr (G4 w.heap.size w1.heap.size w4.heap.size w7.heap.size) (D4 (da.run (L1.take k)) (da.run (L2.take k)) dx dy) ∧ Below w.heap.size w wr) (fun _ i _ => mx - (intOf i).toNat)
  case atStart => exact ⟨0, by omega, rfl, by simpa [DS.run] using unhide HF8, unhide HB8⟩
  case round =>
    obtain ⟨k, hk, rfl, hfam, hbel⟩ := hrel
    by_cases g1 : k < mx
    · have i1 : (k : Int) < (mx : Int) := by omega
      have i0' : (0 : Int) ≤ (k : Int) := by omega
      by_cases q1 : k < n1
      · by_cases q2 : k < n2
        · have j1 : (k : Int) < (n1 : Int) := by omega
          obtain ⟨p, hp1⟩ : ∃ c, L1[k]? = some c := ⟨_, List.getElem?_eq_getElem (by rw [unhide N1]; exact q1)⟩
          have hD := (unhide H1).call hbel
          rcases hD.2 with h0 | ⟨b1, off1, rfl, hlt1, hx1⟩
          · rw [h0] at hp1; simp at hp1
          obtain ⟨x0, x1, x2, x3⟩ := hx1 k p hp1
          have hok1 := (unhide H1).1 p (List.mem_of_getElem? hp1)
          obtain ⟨u1, w1', hv1⟩ := byt_shape hok1.byt
          rw [hv1] at x3
          have hX : ∀ x, x < w.heap.size → x < wr.heap.size := fun x hx => Nat.lt_of_lt_of_le hx hbel.size
          have K1 := fam_does _ 4 _ _ 0 (by decide) w.heap.size rfl p wr hfam hX (hok1.call hbel) (fun hl => byt_far hok1.byt (Nat.le_refl _) hl)
          rw [hv1] at K1
          have K1 := hide K1
          have E1 := hide (da.run_next hp1)
          have HBE := hide hbel
          clear hD hx1 hok1 hX hfam hbel
          go_wp2_with fail
          refine (unhide K1).mono ?_
          clear K1
          rintro e w9 ⟨rfl, hf9, hk9⟩
          have hB9 := (unhide HBE).trans (hk9.below (fun x hx => hx))
          have hfam := fam_set (D' := D4 (da.run (L1.take (k + 1))) (da.run (L2.take k)) dx dy) hf9 (by rw [unhide E1]; rfl) rfl rfl rfl
          have hbel := hB9
          clear hf9 hk9 hB9 x0 x1 x2 x3
          have j2 : (k : Int) < (n2 : Int) := by omega
          obtain ⟨p2, hp2⟩ : ∃ c, L2[k]? = some c := ⟨_, List.getElem?_eq_getElem (by rw [unhide N2]; exact q2)⟩
          have hD := (unhide H2).call hbel
          rcases hD.2 with h0 | ⟨b2, off2, rfl, hlt2, hx2⟩
          · rw [h0] at hp2; simp at hp2
          obtain ⟨x0, x1, x2, x3⟩ := hx2 k p2 hp2
          have hok2 := (unhide H2).1 p2 (List.mem_of_getElem? hp2)
          obtain ⟨u2, w2', hv2⟩ := byt_shape hok2.byt
          rw [hv2] at x3
          have hX : ∀ x, x < w.heap.size → x < w9.heap.size := fun x hx => Nat.lt_of_lt_of_le hx hbel.size
          have K1 := fam_does _ 4 _ _ 1 (by decide) w1.heap.size rfl p2 w9 hfam hX (hok2.call hbel) (fun hl => byt_far hok2.byt (unhide HB1).size hl)
          rw [hv2] at K1
          have K1 := hide K1
          have E2 := hide (da.run_next hp2)
          have HBE2 := hide hbel
          clear hD hx2 hok2 hX hfam hbel
          go_wp2_with fail
          refine (unhide K1).mono ?_
          clear K1
          rintro e w10 ⟨rfl, hf10, hk10⟩
          have hB10 := (unhide HBE2).trans (hk10.below (fun x hx => hx))
          have hfam := fam_set (D' := D4 (da.run (L1.take (k + 1))) (da.run (L2.take (k + 1))) dx dy) hf10 rfl (by rw [unhide E2]; rfl) rfl rfl
          have FIN := hide (And.intro hfam hB10)
          clear hf10 hk10 x0 x1 x2 x3 hfam hB10
          go_wp2
          go_roundw
          case rel => exact ⟨k + 1, by omega, by go_num, unhide FIN⟩
          case measure => simp [intOf]; omega
        · have j1 : (k : Int) < (n1 : Int) := by omega
          obtain ⟨p, hp1⟩ : ∃ c, L1[k]? = some c := ⟨_, List.getElem?_eq_getElem (by rw [unhide N1]; exact q1)⟩
          have hD := (unhide H1).call hbel
          rcases hD.2 with h0 | ⟨b1, off1, rfl, hlt1, hx1⟩
          · rw [h0] at hp1; simp at hp1
          obtain ⟨x0, x1, x2, x3⟩ := hx1 k p hp1
          have hok1 := (unhide H1).1 p (List.mem_of_getElem? hp1)
          obtain ⟨u1, w1', hv1⟩ := byt_shape hok1.byt
          rw [hv1] at x3
          have hX : ∀ x, x < w.heap.size → x < wr.heap.size := fun x hx => Nat.lt_of_lt_of_le hx hbel.size
          have K1 := fam_does _ 4 _ _ 0 (by decide) w.heap.size rfl p wr hfam hX (hok1.call hbel) (fun hl => byt_far hok1.byt (Nat.le_refl _) hl)
          rw [hv1] at K1
          have K1 := hide K1
          have E1 := hide (da.run_next hp1)
          have HBE := hide hbel
          clear hD hx1 hok1 hX hfam hbel
          go_wp2_with fail
          refine (unhide K1).mono ?_
          clear K1
          rintro e w9 ⟨rfl, hf9, hk9⟩
          have hB9 := (unhide HBE).trans (hk9.below (fun x hx => hx))
          have hfam := fam_set (D' := D4 (da.run (L1.take (k + 1))) (da.run (L2.take k)) dx dy) hf9 (by rw [unhide E1]; rfl) rfl rfl rfl
          have hbel := hB9
          clear hf9 hk9 hB9 x0 x1 x2 x3
          have j2 : ¬ ((k : Int) < (n2 : Int)) := by omega
          have hfam := fam_set (D' := D4 (da.run (L1.take (k + 1))) (da.run (L2.take (k + 1))) dx dy) hfam rfl (by show da.run (L2.take k) = da.run (L2.take (k + 1)); rw [run_past _ (by rw [unhide N2]; omega), run_past _ (by rw [unhide N2]; omega)]) rfl rfl
          have FIN := hide (And.intro hfam hbel)
          clear hfam hbel
          go_wp2
          go_roundw
          case rel => exact ⟨k + 1, by omega, by go_num, unhide FIN⟩
          case measure => simp [intOf]; omega
      · by_cases q2 : k < n2
        · have j1 : ¬ ((k : Int) < (n1 : Int)) := by omega
          have hfam := fam_set (D' := D4 (da.run (L1.take (k + 1))) (da.run (L2.take k)) dx dy) hfam (by show da.run (L1.take k) = da.run (L1.take (k + 1)); rw [run_past _ (by rw [unhide N1]; omega), run_past _ (by rw [unhide N1]; omega)]) rfl rfl rfl
          have j2 : (k : Int) < (n2 : Int) := by omega
          obtain ⟨p2, hp2⟩ : ∃ c, L2[k]? = some c := ⟨_, List.getElem?_eq_getElem (by rw [unhide N2]; exact q2)⟩
          have hD := (unhide H2).call hbel
          rcases hD.2 with h0 | ⟨b2, off2, rfl, hlt2, hx2⟩
          · rw [h0] at hp2; simp at hp2
          obtain ⟨x0, x1, x2, x3⟩ := hx2 k p2 hp2
          have hok2 := (unhide H2).1 p2 (List.mem_of_getElem? hp2)
          obtain ⟨u2, w2', hv2⟩ := byt_shape hok2.byt
          rw [hv2] at x3
          have hX : ∀ x, x < w.heap.size → x < wr.heap.size := fun x hx => Nat.lt_of_lt_of_le hx hbel.size
          have K1 := fam_does _ 4 _ _ 1 (by decide) w1.heap.size rfl p2 wr hfam hX (hok2.call hbel) (fun hl => byt_far hok2.byt (unhide HB1).size hl)
          rw [hv2] at K1
          have K1 := hide K1
          have E2 := hide (da.run_next hp2)
          have HBE2 := hide hbel
          clear hD hx2 hok2 hX hfam hbel
          go_wp2_with fail
          refine (unhide K1).mono ?_
          clear K1
          rintro e w10 ⟨rfl, hf10, hk10⟩
          have hB10 := (unhide HBE2).trans (hk10.below (fun x hx => hx))
          have hfam := fam_set (D' := D4 (da.run (L1.take (k + 1))) (da.run (L2.take (k + 1))) dx dy) hf10 rfl (by rw [unhide E2]; rfl) rfl rfl
          have FIN := hide (And.intro hfam hB10)
          clear hf10 hk10 x0 x1 x2 x3 hfam hB10
          go_wp2
          go_roundw
          case rel => exact ⟨k + 1, by omega, by go_num, unhide FIN⟩
          case measure => simp [intOf]; omega
        · have j1 : ¬ ((k : Int) < (n1 : Int)) := by omega
          have hfam := fam_set (D' := D4 (da.run (L1.take (k + 1))) (da.run (L2.take k)) dx dy) hfam (by show da.run (L1.take k) = da.run (L1.take (k + 1)); rw [run_past _ (by rw [unhide N1]; omega), run_past _ (by rw [unhide N1]; omega)]) rfl rfl rfl
          have j2 : ¬ ((k : Int) < (n2 : Int)) := by omega
          have hfam := fam_set (D' := D4 (da.run (L1.take (k + 1))) (da.run (L2.take (k + 1))) dx dy) hfam rfl (by show da.run (L2.take k) = da.run (L2.take (k + 1)); rw [run_past _ (by rw [unhide N2]; omega), run_past _ (by rw [unhide N2]; omega)]) rfl rfl
          have FIN := hide (And.intro hfam hbel)
          clear hfam hbel
          go_wp2
          go_roundw
          case rel => exact ⟨k + 1, by omega, by go_num, unhide FIN⟩
          case measure => simp [intOf]; omega
    · have hkm : k = mx := by omega
      have hfam := fam_set (D' := D4 dx dy dx dy) hfam (by show da.run (L1.take k) = dx; rw [run_past _ (by rw [unhide N1]; omega)]; exact unhide HDX) (by show da.run (L2.take k) = dy; rw [run_past _ (by rw [unhide N2]; omega)]; exact unhide HDY) rfl rfl
      have hX : ∀ x, x < w.heap.size → x < wr.heap.size := fun x hx => Nat.lt_of_lt_of_le hx hbel.size
      have KF := hide (fam_files _ 4 _ _ 0 (by decide) w.heap.size rfl wr hfam hX)
      have HBA := hide hbel
      clear hfam hX hbel
      go_wp2_with fail
      refine (unhide KF).mono ?_
      clear KF
      rintro e wa ⟨va0, va1, va2, rfl, hfa, hka, ma0, ma1, ma2⟩
      have hBa := (unhide HBA).trans (hka.below (fun x hx => hx))
      have hXa : ∀ x, (x < w.heap.size ∨ (wr.heap.size ≤ x ∧ x < wa.heap.size)) → x < wa.heap.size := fun x hx => by
        have := hBa.size
        omega
      have KF := hide (fam_files _ 4 _ _ 2 (by decide) w4.heap.size rfl wa (hfa wa.heap.size) hXa)
      replace ma0 : New wr.heap.size wa va0 (dx.F 0) := ma0
      replace ma1 : New wr.heap.size wa va1 (dx.F 1) := ma1
      replace ma2 : New wr.heap.size wa va2 (dx.F 2) := ma2
      obtain ⟨ba0, pa0, rfl⟩ := ma0.shape
      obtain ⟨ba1, pa1, rfl⟩ := ma1.shape
      obtain ⟨ba2, pa2, rfl⟩ := ma2.shape
      have NA := hide (And.intro ma0 (And.intro ma1 ma2))
      have HSA := hide (p := wr.heap.size ≤ wa.heap.size) hka.size
      have HBA := hide hBa
      clear hfa hka ma0 ma1 ma2 hBa hXa
      go_wp2_with fail
      refine (unhide KF).mono ?_
      clear KF
      rintro e wb ⟨vb0, vb1, vb2, rfl, hfb, hkb, mb0, mb1, mb2⟩
      have hBb := (unhide HBA).trans (hkb.below (fun x hx => .inl hx))
      have hsb : wa.heap.size ≤ wb.heap.size := hkb.size
      have hXb : ∀ x, ((x < w.heap.size ∨ (wr.heap.size ≤ x ∧ x < wa.heap.size)) ∨ (wa.heap.size ≤ x ∧ x < wb.heap.size)) → x < wb.heap.size := fun x hx => by
        have := hBb.size
        omega
      have KF := hide (fam_files _ 4 _ _ 1 (by decide) w1.heap.size rfl wb (hfb wb.heap.size) hXb)
      replace mb0 : New wa.heap.size wb vb0 (dx.F 0) := mb0
      replace mb1 : New wa.heap.size wb vb1 (dx.F 1) := mb1
      replace mb2 : New wa.heap.size wb vb2 (dx.F 2) := mb2
      obtain ⟨bb0, pb0, rfl⟩ := mb0.shape
      obtain ⟨bb1, pb1, rfl⟩ := mb1.shape
      obtain ⟨bb2, pb2, rfl⟩ := mb2.shape
      have na0 := hkb.new (unhide NA).1 (fun x h1 h2 => .inr ⟨h1, h2⟩)
      have na1 := hkb.new (unhide NA).2.1 (fun x h1 h2 => .inr ⟨h1, h2⟩)
      have na2 := hkb.new (unhide NA).2.2 (fun x h1 h2 => .inr ⟨h1, h2⟩)
      have NA := hide (And.intro na0 (And.intro na1 na2))
      have NB := hide (And.intro mb0 (And.intro mb1 mb2))
      have HBB := hide hBb
      clear hfb hkb mb0 mb1 mb2 hBb hXb na0 na1 na2
      go_wp2_with fail
      refine (unhide KF).mono ?_
      clear KF
      rintro e wc ⟨vc0, vc1, vc2, rfl, hfc, hkc, mc0, mc1, mc2⟩
      have hBc := (unhide HBB).trans (hkc.below (fun x hx => .inl (.inl hx)))
      have hXc : ∀ x, (((x < w.heap.size ∨ (wr.heap.size ≤ x ∧ x < wa.heap.size)) ∨ (wa.heap.size ≤ x ∧ x < wb.heap.size)) ∨ (wb.heap.size ≤ x ∧ x < wc.heap.size)) → x < wc.heap.size := fun x hx => by
        have := hBc.size
        have := hkc.size
        omega
      have KF := hide (fam_files _ 4 _ _ 3 (by decide) w7.heap.size rfl wc (hfc wc.heap.size) hXc)
      replace mc0 : New wb.heap.size wc vc0 (dy.F 0) := mc0
      replace mc1 : New wb.heap.size wc vc1 (dy.F 1) := mc1
      replace mc2 : New wb.heap.size wc vc2 (dy.F 2) := mc2
      obtain ⟨bc0, pc0, rfl⟩ := mc0.shape
      obtain ⟨bc1, pc1, rfl⟩ := mc1.shape
      obtain ⟨bc2, pc2, rfl⟩ := mc2.shape
      have cov : ∀ x, wr.heap.size ≤ x → x < wb.heap.size → ((x < w.heap.size ∨ (wr.heap.size ≤ x ∧ x < wa.heap.size)) ∨ (wa.heap.size ≤ x ∧ x < wb.heap.size)) := fun x h1 h2 => by omega
      have hsa : wr.heap.size ≤ wa.heap.size := unhide HSA
      have na0 := hkc.new (unhide NA).1 cov
      have na1 := hkc.new (unhide NA).2.1 cov
      have na2 := hkc.new (unhide NA).2.2 cov
      have nb0 := hkc.new ((unhide NB).1.mono hsa) cov
      have nb1 := hkc.new ((unhide NB).2.1.mono hsa) cov
      have nb2 := hkc.new ((unhide NB).2.2.mono hsa) cov
      have NA := hide (And.intro na0 (And.intro na1 na2))
      have NB := hide (And.intro nb0 (And.intro nb1 nb2))
      have NC := hide (And.intro mc0 (And.intro mc1 mc2))
      have hsc : wb.heap.size ≤ wc.heap.size := hkc.size
      have HBC := hide hBc
      clear hfc hkc mc0 mc1 mc2 hBc hXc na0 na1 na2 nb0 nb1 nb2 cov
      go_wp2_with fail
      refine (unhide KF).mono ?_
      clear KF
      rintro e wd ⟨vd0, vd1, vd2, rfl, hfd, hkd, md0, md1, md2⟩
      have hBd := (unhide HBC).trans (hkd.below (fun x hx => .inl (.inl (.inl hx))))
      replace md0 : New wc.heap.size wd vd0 (dy.F 0) := md0
      replace md1 : New wc.heap.size wd vd1 (dy.F 1) := md1
      replace md2 : New wc.heap.size wd vd2 (dy.F 2) := md2
      obtain ⟨bd0, pd0, rfl⟩ := md0.shape
      obtain ⟨bd1, pd1, rfl⟩ := md1.shape
      obtain ⟨bd2, pd2, rfl⟩ := md2.shape
      have cov : ∀ x, wr.heap.size ≤ x → x < wc.heap.size → (((x < w.heap.size ∨ (wr.heap.size ≤ x ∧ x < wa.heap.size)) ∨ (wa.heap.size ≤ x ∧ x < wb.heap.size)) ∨ (wb.heap.size ≤ x ∧ x < wc.heap.size)) := fun x h1 h2 => by omega
      have hsa : wr.heap.size ≤ wb.heap.size := Nat.le_trans (unhide HSA) hsb
      have NN := hide (And.intro (And.intro (hkd.new (unhide NA).1 cov).byt (And.intro (hkd.new (unhide NA).2.1 cov).byt (hkd.new (unhide NA).2.2 cov).byt)) (And.intro (And.intro (hkd.new (unhide NB).1 cov).byt (And.intro (hkd.new (unhide NB).2.1 cov).byt (hkd.new (unhide NB).2.2 cov).byt))
        (And.intro (And.intro (hkd.new ((unhide NC).1.mono hsa) cov).byt (And.intro (hkd.new ((unhide NC).2.1.mono hsa) cov).byt (hkd.new ((unhide NC).2.2.mono hsa) cov).byt)) (And.intro md0.byt (And.intro md1.byt md2.byt)))))
      have HBD := hide hBd
      clear hfd hkd md0 md1 md2 hBd cov NA NB NC
      obtain ⟨W, hW⟩ : ∃ W, (((wd.alloc (.cells #[.slice ba0 (dx.F 0).length pa0, .slice ba1 (dx.F 1).length pa1, .slice ba2 (dx.F 2).length pa2] 40)).alloc (.cells #[.slice bb0 (dx.F 0).length pb0, .slice bb1 (dx.F 1).length pb1, .slice bb2 (dx.F 2).length pb2] 40)).alloc (.cells #[.slice bc0 (dy.F 0).length pc0, .slice bc1 (dy.F 1).length pc1, .slice bc2 (dy.F 2).length pc2] 40)).alloc (.cells #[.slice bd0 (dy.F 0).length pd0, .slice bd1 (dy.F 1).length pd1, .slice bd2 (dy.F 2).length pd2] 40) = W := ⟨_, rfl⟩
      have hO := out4 wd _ _ _ _ _ _ _ _ _ _ _ _ W hW
      have HO := hide hO
      have HWE := hide hW
      clear hO hW
      go_wp2_with fail
      rw [unhide HWE]
      have HY : Hid ((Byt W (.slice ba0 (dx.F 0).length pa0) (dx.F 0) ∧ Byt W (.slice ba1 (dx.F 1).length pa1) (dx.F 1) ∧ Byt W (.slice ba2 (dx.F 2).length pa2) (dx.F 2)) ∧ (Byt W (.slice bb0 (dx.F 0).length pb0) (dx.F 0) ∧ Byt W (.slice bb1 (dx.F 1).length pb1) (dx.F 1) ∧ Byt W (.slice bb2 (dx.F 2).length pb2) (dx.F 2)) ∧ (Byt W (.slice bc0 (dy.F 0).length pc0) (dy.F 0) ∧ Byt W (.slice bc1 (dy.F 1).length pc1) (dy.F 1) ∧ Byt W (.slice bc2 (dy.F 2).length pc2) (dy.F 2)) ∧ (Byt W (.slice bd0 (dy.F 0).length pd0) (dy.F 0) ∧ Byt W (.slice bd1 (dy.F 1).length pd1) (dy.F 1) ∧ Byt W (.slice bd2 (dy.F 2).length pd2) (dy.F 2))) := by
        obtain ⟨⟨t0, t1, t2⟩, ⟨t3, t4, t5⟩, ⟨t6, t7, t8⟩, t9, ta, tb⟩ := unhide NN
        have q := (unhide HO).2.1
        exact ⟨⟨t0.call q, t1.call q, t2.call q⟩, ⟨t3.call q, t4.call q, t5.call q⟩, ⟨t6.call q, t7.call q, t8.call q⟩, t9.call q, ta.call q, tb.call q⟩
      have HBW := hide ((unhide HBD).trans ((unhide HO).2.1.mono (unhide HBD).size))
      clear HWE NN
      go_loopw [16, 82] (fun _ i wr => ∃ q : Nat, q ≤ 3 ∧ i = .int .i64 q ∧ Below W.heap.size W wr) (fun _ i _ => 3 - (intOf i).toNat)
      case atStart => exact ⟨0, by omega, rfl, Below.refl _ _⟩
      case round =>
        obtain ⟨q, hq, rfl, hbi⟩ := hrel
        obtain ⟨⟨oa, ob, oc, od⟩, -, hz⟩ := unhide HO
        obtain ⟨⟨xa0, xa1, xa2⟩, -, -, -⟩ := oa.keep (hbi.mono (by omega))
        obtain ⟨⟨xb0, xb1, xb2⟩, -, -, -⟩ := ob.keep (hbi.mono (by omega))
        obtain ⟨⟨xc0, xc1, xc2⟩, -, -, -⟩ := oc.keep (hbi.mono (by omega))
        obtain ⟨⟨xd0, xd1, xd2⟩, -, -, -⟩ := od.keep (hbi.mono hz)
        clear oa ob oc od hz
        match q, hq with
        | 0, _ =>
            have HE1 := hide (p := ∀ n, Calls Try.prog 24 #[.slice ba0 (dx.F 0).length pa0, .slice bb0 (dx.F 0).length pb0] (wr.drewN n) fun e w' => e = .returned (.bool true) ∧ w' = wr.drewN n) (fun n =>
              (equal_same _ _ _ _ ((unhide HY).1.1.call (hbi.trans (Joins.below_draws _ _ n))) ((unhide HY).2.1.1.call (hbi.trans (Joins.below_draws _ _ n))) (unhide HX256 0 (by decide))).mono (fun e w' h => ⟨h.1, h.2.symm⟩))
            have HE2 := hide (p := ∀ n, Calls Try.prog 24 #[.slice bc0 (dy.F 0).length pc0, .slice bd0 (dy.F 0).length pd0] (wr.drewN n) fun e w' => e = .returned (.bool true) ∧ w' = wr.drewN n) (fun n =>
              (equal_same _ _ _ _ ((unhide HY).2.2.1.1.call (hbi.trans (Joins.below_draws _ _ n))) ((unhide HY).2.2.2.1.call (hbi.trans (Joins.below_draws _ _ n))) (unhide HY256 0 (by decide))).mono (fun e w' h => ⟨h.1, h.2.symm⟩))
            have HBI := hide hbi
            clear hbi
            go_wp2_with fail
            go_quiet ((first | (go_at_call 24; exact Calls.quiet_of_same (unhide HE1 _)) | (go_at_call 24; exact Calls.quiet_of_same (unhide HE2 _))))
            have hbi2 := (unhide HBI).trans (Joins.below_draws _ _ nq)
            go_wp2
            go_roundw
            case rel => exact ⟨1, by omega, by go_num, hbi2⟩
            case measure => simp [intOf]
        | 1, _ =>
            have HE1 := hide (p := ∀ n, Calls Try.prog 24 #[.slice ba1 (dx.F 1).length pa1, .slice bb1 (dx.F 1).length pb1] (wr.drewN n) fun e w' => e = .returned (.bool true) ∧ w' = wr.drewN n) (fun n =>
              (equal_same _ _ _ _ ((unhide HY).1.2.1.call (hbi.trans (Joins.below_draws _ _ n))) ((unhide HY).2.1.2.1.call (hbi.trans (Joins.below_draws _ _ n))) (unhide HX256 1 (by decide))).mono (fun e w' h => ⟨h.1, h.2.symm⟩))
            have HE2 := hide (p := ∀ n, Calls Try.prog 24 #[.slice bc1 (dy.F 1).length pc1, .slice bd1 (dy.F 1).length pd1] (wr.drewN n) fun e w' => e = .returned (.bool true) ∧ w' = wr.drewN n) (fun n =>
              (equal_same _ _ _ _ ((unhide HY).2.2.1.2.1.call (hbi.trans (Joins.below_draws _ _ n))) ((unhide HY).2.2.2.2.1.call (hbi.trans (Joins.below_draws _ _ n))) (unhide HY256 1 (by decide))).mono (fun e w' h => ⟨h.1, h.2.symm⟩))
            have HBI := hide hbi
            clear hbi
            go_wp2_with fail
            go_quiet ((first | (go_at_call 24; exact Calls.quiet_of_same (unhide HE1 _)) | (go_at_call 24; exact Calls.quiet_of_same (unhide HE2 _))))
            have hbi2 := (unhide HBI).trans (Joins.below_draws _ _ nq)
            go_wp2
            go_roundw
            case rel => exact ⟨2, by omega, by go_num, hbi2⟩
            case measure => simp [intOf]
        | 2, _ =>
            have HE1 := hide (p := ∀ n, Calls Try.prog 24 #[.slice ba2 (dx.F 2).length pa2, .slice bb2 (dx.F 2).length pb2] (wr.drewN n) fun e w' => e = .returned (.bool true) ∧ w' = wr.drewN n) (fun n =>
              (equal_same _ _ _ _ ((unhide HY).1.2.2.call (hbi.trans (Joins.below_draws _ _ n))) ((unhide HY).2.1.2.2.call (hbi.trans (Joins.below_draws _ _ n))) (unhide HX256 2 (by decide))).mono (fun e w' h => ⟨h.1, h.2.symm⟩))
            have HE2 := hide (p := ∀ n, Calls Try.prog 24 #[.slice bc2 (dy.F 2).length pc2, .slice bd2 (dy.F 2).length pd2] (wr.drewN n) fun e w' => e = .returned (.bool true) ∧ w' = wr.drewN n) (fun n =>
              (equal_same _ _ _ _ ((unhide HY).2.2.1.2.2.call (hbi.trans (Joins.below_draws _ _ n))) ((unhide HY).2.2.2.2.2.call (hbi.trans (Joins.below_draws _ _ n))) (unhide HY256 2 (by decide))).mono (fun e w' h => ⟨h.1, h.2.symm⟩))
            have HBI := hide hbi
            clear hbi
            go_wp2_with fail
            go_quiet ((first | (go_at_call 24; exact Calls.quiet_of_same (unhide HE1 _)) | (go_at_call 24; exact Calls.quiet_of_same (unhide HE2 _))))
            have hbi2 := (unhide HBI).trans (Joins.below_draws _ _ nq)
            go_wp2
            go_roundw
            case rel => exact ⟨3, by omega, by go_num, hbi2⟩
            case measure => simp [intOf]
        | 3, _ =>
          go_wp2_with (go_at_call 12; refine (awake_any _).mono ?_; rintro e w' ⟨rfl, hb⟩)
          go_ret
          have hB := (unhide HBW).trans (hbi.mono (unhide HBW).size)
          exact ⟨rfl, hB.trans (hb.mono hB.size)⟩
set_option maxRecDepth 100000 in
theorem lifted (os : Os) (started : os.Started) (H : Type) (enc : TypeId × Value → H) :
    ReturnsInHanded {} Try.checked os 7 .any (Rows.diskTwinsSpec.pre6 enc Try.prog Try.f7 Rows.diskTwinsRow.domain false) (Rows.diskTwinsSpec.post enc Try.prog Try.f7 false true false false) := by
  refine returnsInHanded_of_change (C := Try.checked) own started (by kernel_rfl) Try.func7
    (ChangeSpec.witness6 (enc := enc) (C := Try.checked) false ⟨#[], #[.slice none 0 0, .slice none 0 0, .slice none 0 0], []⟩ 8 (by kernel_rfl) (by kernel_rfl) (by kernel_rfl) (by kernel_rfl)) ?_
  intro W base args ds gs before hval0 hW hcnd _
  have hval : ∀ (j : Nat) t v, Try.f7.params[j]? = some t → args[j]? = some v → Value.okWide Try.prog W .any base t v := hval0
  have hW' := hW
  obtain ⟨p, q, hA0, hV, rfl, hfz, hnd⟩ := hW
  have hA : DataW.TrodAll enc Try.prog W 0 (fun _ => true) true Try.f7.params.toList args.toList ds p := hA0
  rw [Try.params7] at hA hval
  obtain ⟨v0, vs0, d0, ds0, p0, q0, hargs, rfl, rfl, h0, r0⟩ := trodAll_cons hA
  obtain ⟨v1, vs1, d1, ds1, p1, q1, rfl, rfl, rfl, h1, r1⟩ := trodAll_cons r0
  obtain ⟨v2, vs2, d2, ds2, p2, q2, rfl, rfl, rfl, h2, r2⟩ := trodAll_cons r1
  obtain ⟨rfl, rfl, rfl⟩ := trodAll_nil r2
  obtain rfl : args = #[v0, v1, v2] := by cases args; simp_all
  obtain ⟨rfl, rfl⟩ := trodVars_none hV
  have lt0 : ∀ x ∈ p0, x.block < W.heap.size := by obtain ⟨m, hm⟩ := h0; exact DataW.trod_lt m _ _ _ hm
  have lt1 : ∀ x ∈ p1, x.block < W.heap.size := by obtain ⟨m, hm⟩ := h1; exact DataW.trod_lt m _ _ _ hm
  have lt2 : ∀ x ∈ p2, x.block < W.heap.size := by obtain ⟨m, hm⟩ := h2; exact DataW.trod_lt m _ _ _ hm
  obtain ⟨a0, L0, c0, rfl, hc0, hm0, hL0⟩ := open_dos (hval 0 22 v0 rfl rfl) h0
  obtain ⟨a1, L1, c1, rfl, hc1, hm1, hL1⟩ := open_dos (hval 1 22 v1 rfl rfl) h1
  obtain ⟨a2, L2, c2, rfl, hc2, hm2, hL2⟩ := open_dos (hval 2 22 v2 rfl rfl) h2
  clear hA0 hval0
  refine (walk a0 a1 a2 L0 L1 L2 c0 c1 c2 W hL0 hL1 hL2 hc0 hc1 hc2 hm0 hm1 hm2).mono fun e W' ⟨he, bel⟩ => ?_
  subst he
  exact ⟨_, rfl, _, _, _, [], _, [], hW', trodAll_mk1 (shut_bool Try.underlying4 _), (trodAll_cons_mk (Below.trod laidOut (by kernel_rfl) (of_decide_eq_true (by kernel_rfl)) h0 bel lt0) (trodAll_cons_mk (Below.trod laidOut (by kernel_rfl) (of_decide_eq_true (by kernel_rfl)) h1 bel lt1) (trodAll_cons_mk (Below.trod laidOut (by kernel_rfl) (of_decide_eq_true (by kernel_rfl)) h2 bel lt2) trodAll_mk0))), rfl, bel.frame _, fun h => by cases h⟩

theorem proved : Rows.DiskTwinsSaid :=
  OpenClaim.holds_of_wide 7 Try.f7 rfl rfl rfl rfl rfl rfl rfl ⟨rfl, rfl, rfl, rfl, rfl⟩ rfl rfl rfl rfl rfl (by kernel_rfl) Try.func7 (by kernel_rfl)
    (of_decide_eq_true (by kernel_rfl)) (by unfold Func.isWrapper; first | (rw [if_pos (by decide +kernel)]; kernel_rfl) | (rw [if_neg (by decide +kernel)]; exact ⟨rfl, rfl⟩))
    (fun os started H enc _ => lifted os started H enc)
#print axioms proved
end Go.Proofs.Ytadjgljimikodaa.twins
