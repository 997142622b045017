/- The law's example. -/
import Derived.Test.YtdnbhomjfgpcfaaDoorLSw
import Derived.Test.YtdnbhomjfgpcfaaDoorLMo
import Derived.Test.YtdnbhomjfgpcfaaDoorLAt
import Derived.Test.YtdnbhomjfgpcfaaDoorLWh
import Derived.Test.YtdnbhomjfgpcfaaDoorLEq
import Derived.Test.YtdnbhomjfgpcfaaDoorLAp
namespace Go.Proofs.YtdnbhomjfgpcfaaDoor
set_option linter.unusedVariables false
set_option linter.unusedSimpArgs false
open Go.ChangeShapes Go.WideShapes Go.ChangeAt Go.RowKit Go.Joins Go.Deep

theorem FindR.at_ {s : ByteArray} {cs cp : List (List UInt8)} {w w' : World} {r : Ending} (h : FindR s cs w r w') (hx : Tx s cp) (h0 : cp ≠ []) : (∃ v, r = .returned (.tuple #[v, .int .i64 0]) ∧ w'.ownsRow w.heap.size 3 1 v (occL cp cs).length (nsv (occL cp cs))) ∧ Below w.heap.size w w' := by
  obtain ⟨⟨hv, _⟩ | ⟨cp', hx', h⟩, hb⟩ := h
  · rw [hx.valid] at hv; cases hv
  · obtain rfl := hx.inj hx'
    rcases h with ⟨h1, _⟩ | ⟨_, h2⟩
    · exact absurd h1 h0
    · exact ⟨h2, hb⟩
theorem SwapR.at_ {s t : ByteArray} {cs cp cw : List (List UInt8)} {w w' : World} {r : Ending} (h : SwapR s t cs w r w') (hx : Tx s cp) (hy : Tx t cw) (h0 : cp ≠ []) : (∃ v l, r = .returned (.tuple #[v, .int .i64 0]) ∧ OwnP w' w.heap.size v l ∧ NfG 0 l ∧ atomsL l = At.can (swA (rni cp) cw (rni cs))) ∧ Below w.heap.size w w' := by
  obtain ⟨⟨hv, _⟩ | ⟨cp', hx', h⟩, hb⟩ := h
  · rw [hx.valid] at hv; cases hv
  · obtain rfl := hx.inj hx'
    rcases h with ⟨hv, _⟩ | ⟨cw', hy', h⟩
    · rw [hy.valid] at hv; cases hv
    · obtain rfl := hy.inj hy'
      rcases h with ⟨h1, _⟩ | ⟨_, h2⟩
      · exact absurd h1 h0
      · exact ⟨h2, hb⟩
theorem MovR.at_ {cs : List (List UInt8)} {f k t : Int} {w w' : World} {r : Ending} (h : MovR cs f k t w r w') (hm : movB (sts cs).length f k t = true) : (∃ v l, r = .returned (.tuple #[v, .int .i64 0]) ∧ OwnP w' w.heap.size v l ∧ NfG 0 l ∧ atomsL l = At.can (mvA cs (stN cs f.toNat) (stN cs (f.toNat + k.toNat)) (mvP cs f.toNat k.toNat t.toNat))) ∧ Below w.heap.size w w' := by
  obtain ⟨⟨hv, _⟩ | ⟨_, h⟩, hb⟩ := h
  · rw [hm] at hv; cases hv
  · exact ⟨h, hb⟩
theorem can_ed {l : List Pt} {X : List At} {n m : Nat} (h : NfG 0 l) (e : atomsL l = At.can X) (hf : At.fromN X = n) (ht : At.toN X = m) (h1 : n ≤ 1099511627776) (h2 : m ≤ 1099511627776) : IsEd l n m := ⟨h, by rw [e, ← At.fromN_sw (At.can_sw X)]; exact hf, by rw [e, ← At.toN_sw (At.can_sw X)]; exact ht, h1, h2⟩
theorem nfl {l : List Pt} : ∀ {a : Int}, NfG a l → l.length ≤ At.fromN (atomsL l) + At.toN (atomsL l) := by
  induction l with
  | nil => intro a h; simp
  | cons p l ih =>
    intro a h
    obtain ⟨hg, _, _, h4⟩ := h
    have i1 := ih h4
    have c := hg.counts
    have h1 := hg.1
    rw [atomsL, At.from_app, At.to_app, List.length_cons]
    have c1 := c.1
    have c2 := c.2.1
    split at c1 <;> split at c2 <;> omega
theorem ed_own {w : World} {B : Nat} {v : Value} {l : List Pt} {n m : Nat} (h : OwnP w B v l) (he : IsEd l n m) (hn : n + m ≤ 4398046511104) : ∃ a c, v = .slice a l.length c ∧ Edit w a l c :=
  h.edit (ed_txt he) (by have := nfl he.1; rw [he.2.1, he.2.2.1] at this; omega)
theorem aw_at : atE [[97], [98], [10], [99], [100]] 1 9 = .tuple #[.int .i64 5, .int .i64 0] := by rfl
theorem aw_where : whereE [[97], [98], [10], [99], [100]] 3 = .tuple #[.int .i64 1, .int .i64 0, .int .i64 0] := by rfl
theorem aw_find : occL [[97], [97]] [[97], [97], [97]] = [0, 1] := by rfl
theorem aw_swap : swA (rni [[97], [97]]) [[98]] (rni [[97], [97], [97]]) = [.p [98], .d, .d, .k] := by rfl
theorem aw_mov : movB (sts [[97], [10], [98], [10], [99]]).length 1 1 0 = true := by rfl
theorem aw_mv : mvA [[97], [10], [98], [10], [99]] (stN [[97], [10], [98], [10], [99]] (1 : Int).toNat) (stN [[97], [10], [98], [10], [99]] ((1 : Int).toNat + (1 : Int).toNat)) (mvP [[97], [10], [98], [10], [99]] (1 : Int).toNat (1 : Int).toNat (0 : Int).toNat) = [.p [98], .p [10], .k, .k, .d, .d, .k] := by
  rw [show stN [[97], [10], [98], [10], [99]] (1 : Int).toNat = 2 from rfl, show stN [[97], [10], [98], [10], [99]] ((1 : Int).toNat + (1 : Int).toNat) = 4 from rfl, show mvP [[97], [10], [98], [10], [99]] (1 : Int).toNat (1 : Int).toNat (0 : Int).toNat = 0 from rfl]
  unfold mvA
  rw [show sub [[97], [10], [98], [10], [99]] 2 4 = [[98], [10]] from rfl]
  simp [List.replicate_succ, At.comp]
set_option maxRecDepth 100000 in
set_option maxHeartbeats 4000000 in
theorem awake_any (w0 : World) (hT : UT w0) : Calls Tryd.prog 13 #[] w0 fun r w' => r = .returned (.bool true) ∧ Below w0.heap.size w0 w' := by
  have HU : Hid (∀ W, Below w0.heap.size w0 W → UT W) := hide (fun W hb => hT.call hb)
  have B0 := hide (Below.refl w0.heap.size w0)
  clear hT
  go_enter Tryd.func13, Tryd.ntmps13
  have KI := hide (index_any ⟨#[97, 98, 10, 99, 100]⟩ _ w0 (unhide HU _ (unhide B0)) (by decide) (show Tx ⟨#[97, 98, 10, 99, 100]⟩ [[97], [98], [10], [99], [100]] from tx_ascii [97, 98, 10, 99, 100] (by decide)))
  go_wp2_with fail
  refine Calls.mono (unhide KI) ?_
  rintro r w1 ⟨gi1, vr1, vs1, rfl, hi1, b1⟩
  have HI := hide hi1
  clear hi1 KI
  have B1 := hide ((unhide B0).trans (b1.mono (unhide B0).size))
  clear b1
  have KA := hide (at_ok (unhide HI) 1 9 (by decide) (by decide))
  rw [aw_at] at KA
  go_wp2_with fail
  refine Calls.mono (unhide KA) ?_
  rintro r w2 ⟨rfl, b2⟩
  have HI2 := hide ((unhide HI).call b2)
  clear HI KA
  have B2 := hide ((unhide B1).trans (b2.mono (unhide B1).size))
  clear b2
  have KW := hide (where_ok (unhide HI2) 3 (by decide))
  rw [aw_where] at KW
  go_wp2_with fail
  refine Calls.mono (unhide KW) ?_
  rintro r w3 ⟨rfl, b3⟩
  clear HI2 KW
  have B3 := hide ((unhide B2).trans (b3.mono (unhide B2).size))
  clear b3
  have KI := hide (index_any ⟨#[97, 97, 97]⟩ _ w3 (unhide HU _ (unhide B3)) (by decide) (show Tx ⟨#[97, 97, 97]⟩ [[97], [97], [97]] from tx_ascii [97, 97, 97] (by decide)))
  go_wp2_with fail
  refine Calls.mono (unhide KI) ?_
  rintro r w4 ⟨gi4, vr4, vs4, rfl, hi4, b4⟩
  have HI := hide hi4
  clear hi4 KI
  have B4 := hide ((unhide B3).trans (b4.mono (unhide B3).size))
  clear b4
  have KF := hide (find_ok (unhide HI) ⟨#[97, 97]⟩ (unhide HU _ (unhide B4)) (by decide) (by decide))
  go_wp2_with fail
  refine Calls.mono (unhide KF) ?_
  rintro r w5 h5
  obtain ⟨⟨vf, rfl, hf⟩, b5⟩ := h5.at_ (show Tx ⟨#[97, 97]⟩ [[97], [97]] from tx_ascii [97, 97] (by decide)) (by decide)
  rw [aw_find] at hf
  obtain ⟨af, cf, rfl, _, _⟩ := own_sl hf
  have HF := hide hf
  clear hf h5 HI KF
  have B5 := hide ((unhide B4).trans (b5.mono (unhide B4).size))
  clear b5
  have KI := hide (index_any ⟨#[97, 97, 97]⟩ _ w5 (unhide HU _ (unhide B5)) (by decide) (show Tx ⟨#[97, 97, 97]⟩ [[97], [97], [97]] from tx_ascii [97, 97, 97] (by decide)))
  go_wp2_with fail
  refine Calls.mono (unhide KI) ?_
  rintro r w6 ⟨gi6, vr6, vs6, rfl, hi6, b6⟩
  have HI := hide hi6
  clear hi6 KI
  have HF := hide (own_call (unhide HF) b6)
  have B6 := hide ((unhide B5).trans (b6.mono (unhide B5).size))
  clear b6
  have KS := hide (swap_ok (unhide HI) ⟨#[97, 97]⟩ ⟨#[98]⟩ (unhide HU _ (unhide B6)) (by decide) (by decide) (by decide))
  go_wp2_with fail
  refine Calls.mono (unhide KS) ?_
  rintro r w7 h7
  obtain ⟨⟨v1, l1, rfl, ho1, nf1, at1⟩, b7⟩ := h7.at_ (show Tx ⟨#[97, 97]⟩ [[97], [97]] from tx_ascii [97, 97] (by decide)) (show Tx ⟨#[98]⟩ [[98]] from tx_ascii [98] (by decide)) (by decide)
  rw [aw_swap] at at1
  have ed1 := can_ed (n := 3) (m := 2) nf1 at1 (by rfl) (by rfl) (by decide) (by decide)
  obtain ⟨a1, c1, rfl, he1⟩ := ed_own ho1 ed1 (by decide)
  have HE1 := hide he1
  have HD1 := hide (And.intro ed1 at1)
  obtain ⟨n1, hn1⟩ : ∃ z, l1.length = z := ⟨_, rfl⟩
  have HN1 := hide hn1
  try rw [hn1]
  clear ho1 nf1 at1 ed1 he1 hn1 h7 HI KS
  have HF := hide (own_call (unhide HF) b7)
  have B7 := hide ((unhide B6).trans (b7.mono (unhide B6).size))
  clear b7
  have KI := hide (index_any ⟨#[97, 10, 98, 10, 99]⟩ _ w7 (unhide HU _ (unhide B7)) (by decide) (show Tx ⟨#[97, 10, 98, 10, 99]⟩ [[97], [10], [98], [10], [99]] from tx_ascii [97, 10, 98, 10, 99] (by decide)))
  go_wp2_with fail
  refine Calls.mono (unhide KI) ?_
  rintro r w8 ⟨gi8, vr8, vs8, rfl, hi8, b8⟩
  have HI := hide hi8
  clear hi8 KI
  have HF := hide (own_call (unhide HF) b8)
  have HE1 := hide ((unhide HE1).call b8)
  have B8 := hide ((unhide B7).trans (b8.mono (unhide B7).size))
  clear b8
  have KM := hide (move_ok (unhide HI) (show Tx ⟨#[97, 10, 98, 10, 99]⟩ [[97], [10], [98], [10], [99]] from tx_ascii [97, 10, 98, 10, 99] (by decide)).cps 1 1 0 (by decide) (by decide) (unhide HU _ (unhide B8)) (by decide))
  go_wp2_with fail
  refine Calls.mono (unhide KM) ?_
  rintro r w9 h9
  obtain ⟨⟨v2, l2, rfl, ho2, nf2, at2⟩, b9⟩ := h9.at_ aw_mov
  rw [aw_mv] at at2
  have ed2 := can_ed (n := 5) (m := 5) nf2 at2 (by rfl) (by rfl) (by decide) (by decide)
  obtain ⟨a2, c2, rfl, he2⟩ := ed_own ho2 ed2 (by decide)
  have HE2 := hide he2
  have HD2 := hide (And.intro ed2 at2)
  obtain ⟨n2, hn2⟩ : ∃ z, l2.length = z := ⟨_, rfl⟩
  have HN2 := hide hn2
  try rw [hn2]
  clear ho2 nf2 at2 ed2 he2 hn2 h9 HI KM
  have HF := hide (own_call (unhide HF) b9)
  have HE1 := hide ((unhide HE1).call b9)
  have B9 := hide ((unhide B8).trans (b9.mono (unhide B8).size))
  clear b9
  have bA : Below w9.heap.size w9 (w9.alloc (.cells #[.int .i64 0, .int .i64 1] 3)) := (Below.refl _ _).alloc (Nat.le_refl _) _
  have HNW := RowAt.new w9 3 [.int .i64 0, .int .i64 1]
  have HF := hide (own_call (unhide HF) bA)
  have HE1 := hide ((unhide HE1).call bA)
  have HE2 := hide ((unhide HE2).call bA)
  have BA := hide ((unhide B9).trans (bA.mono (unhide B9).size))
  have KQ := hide (ieq_any w4.heap.size w9.heap.size (.slice af 2 cf) (.slice (some ⟨w9.heap.size, 0, none⟩) 2 2) [0, 1] [0, 1] (w9.alloc (.cells #[.int .i64 0, .int .i64 1] 3)) (unhide HF) (own_row HNW (Nat.le_refl _) (by show 2 ≤ maxLen; unfold maxLen; omega)) (by decide))
  clear bA HNW HF
  go_wp2_with fail
  refine Calls.mono (unhide KQ) ?_
  rintro r wa ⟨rfl, ba⟩
  have HE1 := hide ((unhide HE1).call ba)
  have HE2 := hide ((unhide HE2).call ba)
  have BA2 := hide ((unhide BA).trans (ba.mono (unhide BA).size))
  have KA := hide (applied_any a1 l1 c1 n1 2 ⟨#[97, 97, 97]⟩ [[97], [97], [97]] wa (unhide HU _ (unhide BA2)) (unhide HE1) (unhide HN1) (show Tx ⟨#[97, 97, 97]⟩ [[97], [97], [97]] from tx_ascii [97, 97, 97] (by decide)) (unhide HD1).1)
  clear ba KQ
  go_wp2_with fail
  refine Calls.mono (unhide KA) ?_
  rintro r wb ⟨S1, rfl, hx1, bb⟩
  rw [(unhide HD1).2, At.app_can] at hx1
  have e1 : S1 = ⟨#[98, 97]⟩ := hx1.same (show Tx ⟨#[98, 97]⟩ [[98], [97]] from tx_ascii [98, 97] (by decide))
  subst e1
  have HE2 := hide ((unhide HE2).call bb)
  have BB2 := hide ((unhide BA2).trans (bb.mono (unhide BA2).size))
  have KB := hide (applied_any a2 l2 c2 n2 5 ⟨#[97, 10, 98, 10, 99]⟩ [[97], [10], [98], [10], [99]] wb (unhide HU _ (unhide BB2)) (unhide HE2) (unhide HN2) (show Tx ⟨#[97, 10, 98, 10, 99]⟩ [[97], [10], [98], [10], [99]] from tx_ascii [97, 10, 98, 10, 99] (by decide)) (unhide HD2).1)
  clear bb KA hx1
  go_wp2_with fail
  refine Calls.mono (unhide KB) ?_
  rintro r wc ⟨S2, rfl, hx2, bc⟩
  rw [(unhide HD2).2, At.app_can] at hx2
  have e2 : S2 = ⟨#[98, 10, 97, 10, 99]⟩ := hx2.same (show Tx ⟨#[98, 10, 97, 10, 99]⟩ [[98], [10], [97], [10], [99]] from tx_ascii [98, 10, 97, 10, 99] (by decide))
  subst e2
  have BC := hide ((unhide BB2).trans (bc.mono (unhide BB2).size))
  clear bc KB hx2
  go_wp2_with fail
  go_ret
  exact ⟨by first | rfl | (simp; done), unhide BC⟩
end Go.Proofs.YtdnbhomjfgpcfaaDoor
