/- The document's own answer: bytes, sums and blocks. -/
import Derived.Test.YtbahnkomdndmkacDoorRef
namespace Go.Proofs.YtbahnkomdndmkacDoor
set_option linter.unusedVariables false
set_option linter.unusedSimpArgs false
open Go.ChangeShapes Go.WideShapes Go.ChangeAt Go.RowKit Go.Joins

theorem refput1 (v : Value) (l : List Nat) (A : Nat) (w : World) (hv : Byt w v l) (hl : l.length ≤ 100000000) (hA : A ≤ 9223372036854775807) : Calls Tryd.prog 44 #[v, .slice (some ⟨w.heap.size, 0, none⟩) 1 1] (w.alloc (.cells #[.int .i64 (A : Int)] 3)) fun e w' => ∃ v', e = .returned v' ∧ w'.ownsRow w.heap.size 5 1 v' (l ++ num8 A).length (bv (l ++ num8 A)) ∧ Below w.heap.size w w' := by
  have hB : Below w.heap.size w (w.alloc (.cells #[.int .i64 (A : Int)] 3)) := (Below.refl _ _).alloc (Nat.le_refl _) _
  refine (refput_any v l w.heap.size 1 1 (fun _ => (A : Int)) _ (hv.call hB) hl (by decide) (by simp) ?_).mono ?_
  · intro i hi
    obtain rfl : i = 0 := by omega
    exact ⟨by simp [go_sem], by omega⟩
  · rintro e w' ⟨v', rfl, ho, hb⟩
    exact ⟨v', rfl, ownsRow_le ho hB.size, hB.trans (hb.mono hB.size)⟩

set_option maxHeartbeats 1000000 in
theorem refputbytes_any (v x : Value) (l d : List Nat) (w : World) (hv : Byt w v l) (hx : Byt w x d) (hl : l.length ≤ 100000000) (hd : d.length ≤ 100000000) :
    Calls Tryd.prog 15 #[v, x] w fun e w' => ∃ v', e = .returned v' ∧ w'.ownsRow w.heap.size 5 1 v' (putB l d).length (bv (putB l d)) ∧ Below w.heap.size w w' := by
  obtain ⟨i0, hi, hz0, hz1, hz2⟩ := info_parts info5
  rcases hx with ⟨rfl, rfl⟩ | ⟨a, cap, rfl, h1, h2, h3⟩
  · go_enter Tryd.func15, Tryd.ntmps15
    go_wp2_with fail
    refine (refput1 v l 0 w hv hl (by omega)).mono ?_
    rintro e w2 ⟨v2, rfl, ho2, hb2⟩
    simp only [List.length_append] at ho2
    rcases Joins.ownsRow_forms ho2 with ⟨_, hz⟩ | ⟨g, cp, rfl⟩
    · rw [num8_len] at hz; omega
    have hcp : l.length + (num8 0).length ≤ cp := by
      obtain ⟨_, ⟨h, _⟩ | ⟨g', cap', cur, hv', _, _, h1, _⟩⟩ := ho2
      · cases h
      · cases hv'; exact h1
    go_wp2
    go_ret
    exact ⟨_, rfl, own_cast ho2 (by simp [putB]) (by simp [putB]), hb2⟩
  · have hnews := Byt.news h3
    have hbd : ∀ j u, (bv d)[j]? = some u → (a.add j).block < w.heap.size := fun j u hj => lt_of_cell (hnews j u hj)
    obtain ⟨n, hn⟩ : ∃ n, d.length = n := ⟨_, rfl⟩
    rw [hn] at h1 hd
    rw [hn]
    have HN := hide hnews
    have HL := hide hn
    have HB := hide hbd
    clear hnews h3 hn hbd
    go_enter Tryd.func15, Tryd.ntmps15
    go_wp2_with fail
    refine (refput1 v l n w hv hl (by omega)).mono ?_
    rintro e w2 ⟨v2, rfl, ho2, hb12⟩
    go_wp2_with (at_builtin; refine wpList_append_own _ rfl _ _ 22 rfl w.heap.size 5 i0 (.int .u8 0) 1 1 Tryd.underlying22 hi hz0 hz1 hz2 rfl (by decide) _ _ _ rfl ho2 a n cap (bv d) rfl ?c0 ?c1 ?c2 ?c3 ?c4 ?c5 ?_)
    case c0 => rw [bv_len, unhide HL]; omega
    case c1 =>
      intro j u hj
      exact cell_keep hb12 (unhide HB j u hj) (unhide HN j u hj)
    case c2 => exact bv_one d
    case c3 => rw [List.length_append, num8_len]; unfold maxLen; omega
    case c4 => rw [List.length_append, num8_len]; omega
    case c5 => exact hb12.size
    intro v' w3 hown' hgrow' _
    go_wp2
    go_ret
    refine ⟨_, rfl, ?_, hb12.grown hgrow' hb12.size (fun k hk => (ho2.lt k hk).1)⟩
    exact own_cast hown' (by rw [putB, List.length_append, List.length_append, unhide HL]) (by rw [putB, bv_append (l ++ _), unhide HL])

theorem step_ge (d : Int) (h0 : 0 ≤ d) (h1 : d < 4294967296) (h : (2147483648 : Int) ≤ d) : stepI d = bits .xor .u32 (2 * d % 4294967296) 2168537515 := by
  obtain ⟨a, rfl⟩ := Int.eq_ofNat_of_zero_le h0
  have := and_top a (by omega)
  have e0 : bits .and .u32 (a : Int) 2147483648 = ((a &&& 2147483648 : Nat) : Int) := u32_and_nat a 2147483648 (by omega) (by decide)
  have h2 := this.2 (by omega)
  unfold stepI
  rw [e0, if_pos (by simp; omega), show (a : Int) * 2 = 2 * (a : Int) by omega]
theorem step_lt (d : Int) (h0 : 0 ≤ d) (h1 : d < 2147483648) : stepI d = 2 * d % 4294967296 := by
  obtain ⟨a, rfl⟩ := Int.eq_ofNat_of_zero_le h0
  rw [step_nat a (by omega), stepN, if_neg (by omega)]
  omega

set_option maxHeartbeats 2000000 in
theorem refsum_any (v : Value) (l : List Nat) (w : World) (hv : Byt w v l) (h256 : ∀ y ∈ l, y < 256) (hl : l.length ≤ 1000000000) :
    Calls Tryd.prog 18 #[v] w fun e w' => e = .returned (.int .u32 (sumTo l)) ∧ w = w' := by
  rcases hv with ⟨rfl, rfl⟩ | ⟨a, cap, rfl, h1, h2, h3⟩
  · go_enter Tryd.func18, Tryd.ntmps18
    go_wp2_with fail
    go_rounds 1
    go_ret
    exact ⟨rfl, rfl⟩
  · have HC := hide h3
    have H256 := hide h256
    obtain ⟨n, hn⟩ : ∃ n, l.length = n := ⟨_, rfl⟩
    rw [hn] at h1 hl
    rw [hn]
    have HN := hide hn
    clear h3 h256 hn
    go_enter Tryd.func18, Tryd.ntmps18
    go_wp2_with fail
    go_loop [3, 9] (fun c i => ∃ k : Nat, k ≤ n ∧ i = .int .i64 k ∧ c = .int .u32 (sumTo (l.take k))) (fun _ i => n - (intOf i).toNat)
    case atStart => exact ⟨0, by omega, rfl, rfl⟩
    case round =>
      obtain ⟨k, hk, rfl, rfl⟩ := hrel
      have hb := sum_r32 (l.take k) (fun y hy => unhide H256 y (List.mem_of_mem_take hy))
      obtain ⟨d, hd⟩ : ∃ d, sumTo (l.take k) = d := ⟨_, rfl⟩
      rw [hd] at hb ⊢
      have HD := hide hd
      clear hd
      by_cases hlt : k < n
      · obtain ⟨y, hy⟩ : ∃ y, l[k]? = some y := ⟨_, List.getElem?_eq_getElem (by rw [unhide HN]; exact hlt)⟩
        have hcell := unhide HC k y hy
        obtain ⟨b, off, rfl⟩ := plain_of (unhide HC) (by rw [unhide HN]; omega)
        rw [add_plain] at hcell
        have hy256 := unhide H256 y (List.mem_of_getElem? hy)
        have HY := hide hy
        clear hy
        have g1 : (0 : Int) ≤ (k : Int) := by omega
        have g2 : (k : Int) < (n : Int) := by omega
        have hr := mix_r32 (x := (y : Int)) hb ⟨by omega, by omega⟩
        have HR := hide hr
        clear hr
        obtain ⟨d0, d1⟩ := hb
        go_wp2_with fail
        go_loop [3, 18] (fun c i => ∃ q : Nat, q ≤ 8 ∧ i = .int .i64 q ∧ c = .int .u32 (mixTo d y q)) (fun _ i => 8 - (intOf i).toNat)
        case atStart => exact ⟨0, by omega, rfl, rfl⟩
        case round =>
          obtain ⟨q, hq, rfl, rfl⟩ := hrel
          have hbq := unhide HR q
          obtain ⟨m, hm⟩ : ∃ m, mixTo d y q = m := ⟨_, rfl⟩
          rw [hm] at hbq ⊢
          have HM := hide hm
          clear hm
          obtain ⟨m0, m1⟩ := hbq
          by_cases hlt8 : q < 8
          · have hqi : (q : Int) < 8 := by omega
            by_cases hge : (2147483648 : Int) ≤ m
            · have hst := step_ge m m0 m1 hge
              have HST := hide hst
              clear hst
              have tge : decide ((2147483648 : Int) ≤ m) = true := by simpa using hge
              go_wp2_with fail
              go_round
              case rel => exact ⟨q + 1, by omega, by go_num, by rw [show mixTo d y (q + 1) = stepI (mixTo d y q) from rfl, unhide HM, unhide HST]⟩
              case measure => simp [intOf]; omega
            · have hst := step_lt m m0 (by omega)
              have HST := hide hst
              clear hst
              have tge : decide ((2147483648 : Int) ≤ m) = false := by simpa using hge
              go_wp2_with fail
              go_round
              case rel => exact ⟨q + 1, by omega, by go_num, by rw [show mixTo d y (q + 1) = stepI (mixTo d y q) from rfl, unhide HM, unhide HST, show 2 * m % 4294967296 = 2 * m by omega]⟩
              case measure => simp [intOf]; omega
          · have hq8 : q = 8 := by omega
            have hqn : ¬ (q : Int) < 8 := by omega
            rw [hq8] at HM
            have HM' := unhide HM
            have HMH := hide HM'
            clear hq8 hlt8 hq HM HM'
            go_wp2_with fail
            go_round
            case rel => exact ⟨k + 1, by omega, by go_num, by rw [sum_take (unhide HY), unhide HD, unhide HMH]⟩
            case measure => simp [intOf]; omega
      · have hkn : k = n := by omega
        subst hkn
        go_wp2_with fail
        go_ret
        exact ⟨by rw [← unhide HD, List.take_of_length_le (by rw [unhide HN]; omega)]; rfl, rfl⟩

theorem refseal_long (a : Option Addr) (n cap : Nat) (w : World) (h : (16384 : Int) < (n : Int)) :
    Calls Tryd.prog 12 #[.slice a n cap] w fun e w' => e = .returned (.tuple #[.slice none 0 0, .int .i64 4]) ∧ w = w' := by
  go_enter Tryd.func12, Tryd.ntmps12
  go_wp2
  go_ret2
  exact ⟨rfl, rfl⟩

set_option maxHeartbeats 1000000 in
theorem refseal_any (v : Value) (d : List Nat) (w : World) (hv : Byt w v d) (h256 : ∀ y ∈ d, y < 256) (hd : d.length ≤ 16384) :
    Calls Tryd.prog 12 #[v] w fun e w' => ∃ v', e = .returned (.tuple #[v', .int .i64 0]) ∧ w'.ownsRow w.heap.size 5 1 v' (sealB d).length (bv (sealB d)) ∧ Below w.heap.size w w' := by
  obtain ⟨i0, hi, hz0, hz1, hz2⟩ := info_parts info5
  have h256' := putB_256 (l := []) (fun y hy => by cases hy) h256
  have hlen := putB_len [] d
  obtain ⟨a, n, cap, hva⟩ : ∃ a n cap, v = .slice a n cap ∧ n = d.length := by
    rcases hv with ⟨rfl, rfl⟩ | ⟨a, cap, rfl, _⟩
    · exact ⟨none, 0, 0, rfl, rfl⟩
    · exact ⟨some a, _, cap, rfl, rfl⟩
  obtain ⟨rfl, hn⟩ := hva
  have H256 := hide h256'
  have HL := hide hlen
  have HN := hide hn
  have hn2 : n ≤ 16384 := by omega
  have hn3 : ¬ (16384 : Int) < (n : Int) := by omega
  clear h256 h256' hlen hn
  have hnil : Byt w (.slice none 0 0) [] := .inl ⟨rfl, rfl⟩
  have hr := sum_r32 (putB [] d) (unhide H256)
  obtain ⟨s, hs⟩ : ∃ s, sumTo (putB [] d) = s := ⟨_, rfl⟩
  rw [hs] at hr
  have HS := hide hs
  clear hs
  obtain ⟨s0, s1⟩ := hr
  go_enter Tryd.func12, Tryd.ntmps12
  go_wp2_with fail
  refine (refputbytes_any _ _ [] d _ hnil hv (by simp) (by omega)).mono ?_
  rintro e w1 ⟨v1, rfl, ho1, hb1⟩
  go_wp2_with fail
  refine (refsum_any _ _ _ (Byt.of_own ho1) (unhide H256) (by rw [unhide HL]; simp; omega)).mono ?_
  rintro e w2 ⟨rfl, rfl⟩
  rw [unhide HS]
  have q1 : s.tdiv 16777216 = s / 16777216 := Int.tdiv_eq_ediv_of_nonneg s0
  have q2 : s.tdiv 65536 = s / 65536 := Int.tdiv_eq_ediv_of_nonneg s0
  have q3 : s.tdiv 256 = s / 256 := Int.tdiv_eq_ediv_of_nonneg s0
  have q4 : s / 16777216 % 256 = s / 16777216 := by omega
  go_wp2_with (at_builtin; refine wpList_append_own _ rfl _ _ 22 rfl w.heap.size 5 i0 (.int .u8 0) 1 1 Tryd.underlying22 hi hz0 hz1 hz2 rfl (by decide) _ _ _ rfl (ho1.alloc _) ⟨w1.heap.size, 0, none⟩ 4 4 (bv (sum4 s)) rfl ?c0 ?c1 ?c2 ?c3 ?c4 ?c5 ?_)
  case c0 => rfl
  case c1 =>
    intro j x hj
    rw [bv_sum4 ⟨s0, s1⟩] at hj
    rw [add_plain]
    match j, hj with
    | 0, hj => simp at hj; subst hj; simp [go_sem]
    | 1, hj => simp at hj; subst hj; simp [go_sem]
    | 2, hj => simp at hj; subst hj; simp [go_sem]
    | 3, hj => simp at hj; subst hj; simp [go_sem]
  case c2 => exact bv_one _
  case c3 => rw [unhide HL]; unfold maxLen; simp; omega
  case c4 => rw [unhide HL]; simp; omega
  case c5 => have := hb1.size; simp; omega
  intro v' w3 hown' hgrow' _
  go_wp2
  go_ret2
  refine ⟨_, rfl, ?_, (hb1.alloc hb1.size _).grown hgrow' (by have := hb1.size; simp; omega) (fun k hk => (ho1.lt k hk).1)⟩
  exact own_cast hown' (by rw [sealB, unhide HS, List.length_append]; rfl) (by rw [sealB, unhide HS, bv_append])
end Go.Proofs.YtbahnkomdndmkacDoor
