/- ChannelAll. -/
import Derived.Test.YtmkpphkdaiienaaCOd
import Derived.Test.YtmkpphkdaiienaaCAo
namespace Go.Proofs.Ytmkpphkdaiienaa
set_option linter.unusedVariables false
set_option linter.unusedSimpArgs false
open Go.ChangeShapes Go.WideShapes Go.ChangeAt Go.RowKit Go.Joins Go.Deep

structure LA (k N M : Nat) (Q R : PS) : Prop where
  cnt : Cnt N (M + 6 * k) R
  a : ∀ i, i < k → TA Q R i
  s : ∀ i, k ≤ i → i < 2 → SA Q R i
theorem LA.next {i N M : Nat} {Q R : PS} (h : LA i N M Q R) (hi : i < 2) (v : Value) {L : List Fm} {T : PS} (hT : P1 R i (tickS (R.s i)) (R.vq i) = T) (hL : L.map Fm.key = outs (T.s i)) : LA (i + 1) (N + 2) M Q (P3 (P1 T i (outS (T.s i)) (T.vq i)) i v (T.F i ++ L)) := by
  have c := (h.cnt.tick hi)
  rw [hT] at c
  have c2 := c.outI hi v hL
  have t1 : T.s i = tickS (R.s i) := by rw [← hT]; exact upd_same _ _ _
  have t2 : ∀ j, j ≠ i → T.s j = R.s j := fun j hj => by rw [← hT]; exact upd_other _ _ hj
  have t3 : T.F = R.F := by rw [← hT]; rfl
  have s0 := h.s i (Nat.le_refl _) hi
  refine ⟨⟨c2.ordr, c2.adv, by have := c2.cnt; omega⟩, fun j hj => ?_, fun j hj hj2 => ?_⟩
  · by_cases hji : j = i
    · subst hji
      refine ⟨L, by rw [hL, t1, s0.1], ?_, ?_⟩
      · show upd T.s j (outS (T.s j)) j = _; rw [upd_same, t1, s0.1]
      · show upd T.F j (T.F j ++ L) j = _; rw [upd_same, t3, s0.2]
    · obtain ⟨L', e1, e2, e3⟩ := h.a j (by omega)
      refine ⟨L', e1, ?_, ?_⟩
      · show upd T.s i (outS (T.s i)) j = _; rw [upd_other _ _ hji, t2 j hji, e2]
      · show upd T.F i (T.F i ++ L) j = _; rw [upd_other _ _ hji, t3, e3]
  · have hji : j ≠ i := by omega
    have e := h.s j (by omega) hj2
    refine ⟨?_, ?_⟩
    · show upd T.s i (outS (T.s i)) j = _; rw [upd_other _ _ hji, t2 j hji, e.1]
    · show upd T.F i (T.F i ++ L) j = _; rw [upd_other _ _ hji, t3, e.2]
structure LB (k N M : Nat) (Q R : PS) : Prop where
  cnt : Cnt N M R
  b : ∀ i, i < k → TB Q R i
  s : ∀ i, k ≤ i → i < 2 → SB Q R i
theorem LB.next {i m N N' M : Nat} {Q R S : PS} (h : LB i N M Q R) (hi : i < 2) (c : Coming i m N' M R S) (hm : m = (R.F i).length) : LB (i + 1) N' M Q (P3 S i (.slice none 0 0) []) := by
  obtain ⟨c1, c2, c3, c4, c5⟩ := c.clear hi hm
  obtain ⟨Z, hZ⟩ : ∃ z, P3 S i (.slice none 0 0) [] = z := ⟨_, rfl⟩
  rw [hZ] at c1 c2 c3 c4 c5 ⊢
  have s0 := h.s i (Nat.le_refl _) hi
  have T0 : TB Q Z i := ⟨by rw [← s0.1, ← s0.2]; exact c2, c4⟩
  refine ⟨c1, fun j hj => ?_, fun j hj hj2 => ?_⟩
  · by_cases hji : j = i
    · subst hji; exact T0
    · obtain ⟨e1, e2⟩ := h.b j (by omega)
      obtain ⟨rfl, rfl⟩ : i = 1 ∧ j = 0 := by omega
      exact ⟨by rw [c3]; exact e1, by rw [← e2]; exact c5⟩
  · obtain ⟨rfl, rfl⟩ : i = 0 ∧ j = 1 := by omega
    have e := h.s 1 (by decide) (by decide)
    exact ⟨by show Z.s 0 = _; rw [c3]; exact e.1, by rw [← e.2]; exact c5⟩
theorem Pair.nil {w : World} {B gp : Nat} {P : PS} (h : Pair w B gp P) {i : Nat} (hi : i < 2) : Pair (w.setCell ⟨gp, 2 + i, none⟩ (.slice none 0 0)) B gp (P3 P i (.slice none 0 0) []) ∧ Below B w (w.setCell ⟨gp, 2 + i, none⟩ (.slice none 0 0)) := by
  have o7 : Only (· = gp) w (w.setCell ⟨gp, 2 + i, none⟩ (.slice none 0 0)) := Only.set (p := (· = gp)) (Only.refl _ _) gp _ _ rfl
  exact ⟨h.setW i hi (Only.refl _ _) ⟨by simp [fcs], .inl ⟨rfl, rfl⟩⟩ (fun k hk => by cases hk) (fun f hf => by cases hf), o7.below h.low (fun k hk => by rw [hk]; exact h.gB)⟩
set_option maxRecDepth 100000 in
set_option maxHeartbeats 4000000 in
theorem all_law (a : Option Addr) (L : List Mv) (cap : Nat) (w : World) (h : Mvs w a L) (hc : L.length ≤ cap) (hm : cap ≤ maxLen) :
    Calls Try.prog 5 #[.slice a L.length cap] w fun e w' => e = .returned (.bool true) ∧ Below w.heap.size w w' := by
  have HS := hide (few_any a L cap w h hc hm)
  have HD := hide h
  unfold maxLen at hm
  obtain ⟨n, hn⟩ : ∃ n, L.length = n := ⟨_, rfl⟩
  have HN := hide hn
  rw [hn] at hc HS ⊢
  clear h hn
  go_enter Try.func5, Try.ntmps5
  go_wp2_with fail
  refine Calls.mono (unhide HS) ?_
  rintro r w' ⟨⟨sh, rfl, hsh⟩, rfl⟩
  clear HS
  cases sh with
  | false =>
    go_wp2_with fail
    refine Calls.mono (awake_any w) ?_
    rintro r w1 ⟨rfl, hb⟩
    have HB := hide hb
    clear hb
    go_wp2_with fail
    go_ret
    exact ⟨rfl, unhide HB⟩
  | true =>
    have HSH := hide (hsh rfl)
    have hn2 : n ≤ 200 := by have := (unhide HSH).1; have := unhide HN; omega
    clear hsh
    go_wp2_with fail
    refine Calls.mono (fresh_any w) ?_
    intro r w1 h1
    obtain ⟨g0, m0, rfl, c0, b1⟩ := h1.shape
    have HC0 := hide c0
    have HB1 := hide b1
    clear h1 c0 b1
    go_wp2_with fail
    refine Calls.mono (fresh_any w1) ?_
    intro r w2 h2
    obtain ⟨g1, m1, rfl, c1, b2⟩ := h2.shape
    have HP := hide (pair_new (unhide HC0) (unhide HB1) c1 b2)
    clear h2 c1 b2 HC0 HB1
    go_wp2_with fail
    obtain ⟨w3, hw3⟩ : ∃ z, w2.alloc (.cells #[.pointer (some ⟨g0, 0, none⟩), .pointer (some ⟨g1, 0, none⟩), .slice none 0 0, .slice none 0 0, .slice none 0 0, .slice none 0 0, .slice none 0 0, .slice none 0 0, .bool true] 65) = z := ⟨_, rfl⟩
    obtain ⟨gp, hgp⟩ : ∃ z, w2.heap.size = z := ⟨_, rfl⟩
    rw [hw3, hgp] at HP
    rw [hw3]
    try rw [hgp]
    clear hw3 hgp
    go_loopw [21] (fun i wr => ∃ (k : Nat) (P : PS), k ≤ n ∧ i = .int .i64 (k : Int) ∧ Hid (Pair wr w.heap.size gp P ∧ Ordr k P ∧ Adv P ∧ Below w.heap.size w wr)) (fun i _ => n - (intOf i).toNat)
    case atStart => exact ⟨0, _, by omega, rfl, hide ⟨(unhide HP).1, ordr_new _ _ _ _, adv_new _ _ _ _, (unhide HP).2⟩⟩
    case round =>
      clear HP
      obtain ⟨k, P, hk, rfl, HI⟩ := hrel
      by_cases g9 : k < n
      · have i1 : (k : Int) < (n : Int) := by omega
        have i0 : (0 : Int) ≤ (k : Int) := by omega
        obtain ⟨c, hc1⟩ : ∃ c, L[k]? = some c := ⟨_, List.getElem?_eq_getElem (by rw [unhide HN]; exact g9)⟩
        have HCM := hide (List.mem_of_getElem? hc1)
        rcases ((unhide HD).call (unhide HI).2.2.2).2 with h0 | ⟨b, off, rfl, hlt, hx⟩
        · rw [h0] at hc1; simp at hc1
        have hat := hx k c hc1
        obtain ⟨av, cv, hv⟩ := byt_shape ((unhide HD).1 c (unhide HCM)).byt
        have q0 : wr.cell? ⟨b, off + k * 3, none⟩ = some (.int .i64 c.op) := hat 0 _ rfl
        have q1 : wr.cell? ⟨b, off + k * 3 + 1, none⟩ = some (.int .i64 c.n) := hat 1 _ rfl
        have q2 : wr.cell? ⟨b, off + k * 3 + 2, none⟩ = some (.slice av c.b.length cv) := by rw [← hv]; exact hat 2 _ rfl
        have HV : Hid (Byt w (.slice av c.b.length cv) c.b) := hide (by rw [← hv]; exact ((unhide HD).1 c (unhide HCM)).byt)
        have HB256 := hide ((unhide HD).1 c (unhide HCM)).b256
        have HBL : Hid (c.b.length ≤ 1000000000) := hide (by have := totM_mem (unhide HCM); have := (unhide HSH).2; omega)
        clear hx hat hlt hc1 hv
        have b1 : Below wr.heap.size wr (wr.alloc (.cells #[.int .i64 c.op, .int .i64 c.n, .slice av c.b.length cv] 67)) := (Below.refl _ _).alloc (Nat.le_refl _) _
        have HI1 := hide (And.intro ((unhide HI).1.call b1) ((unhide HI).2.2.2.trans (b1.mono (unhide HI).2.2.2.size)))
        have HO := hide (And.intro (unhide HI).2.1 (unhide HI).2.2.1)
        clear HI
        go_wp2_with fail
        obtain ⟨w4, hw4⟩ : ∃ z, wr.alloc (.cells #[.int .i64 c.op, .int .i64 c.n, .slice av c.b.length cv] 67) = z := ⟨_, rfl⟩
        rw [hw4] at HI1 ⊢
        clear hw4 b1 q0 q1 q2
        refine Calls.mono (move_any w.heap.size gp k P c.op c.n c.b _ w4 (unhide HI1).1 (unhide HO).1.good (by omega) ⟨(unhide HV).call (unhide HI1).2, (byt_lt (unhide HV)).imp id .inl⟩ (unhide HBL)) ?_
        rintro r w5 ⟨rfl, P', hst, h5, b5⟩
        have HI6 := hide (And.intro h5 (And.intro ((unhide HO).1.step (unhide HB256) hst) (And.intro ((unhide HO).2.step (unhide HO).1 hst) ((unhide HI1).2.trans b5))))
        clear hst h5 b5 HO HI1
        go_wp2_with fail
        go_roundw
        case rel => exact ⟨k + 1, P', by omega, by go_num, HI6⟩
        case measure => simp [intOf]; omega
      · have i1 : ¬ (k : Int) < (n : Int) := by omega
        obtain ⟨A, hA⟩ : ∃ z, z = P := ⟨_, rfl⟩
        rw [← hA] at HI
        have HA0 := hide (few_cnt (unhide HI).2.1 (unhide HI).2.2.1 (by omega))
        clear hA
        go_wp2_with fail
        go_loopw [29] (fun i wr => ∃ (r N3 : Nat) (P0 : PS), r ≤ 60 ∧ i = .int .i64 (r : Int) ∧ Hid (Rnds r N3 A P0 ∧ Pair wr w.heap.size gp P0 ∧ Below w.heap.size w wr)) (fun i _ => 60 - (intOf i).toNat)
        case atStart => exact ⟨0, k, A, by omega, rfl, hide ⟨⟨unhide HA0, ⟨rfl, rfl⟩, ⟨rfl, rfl⟩⟩, (unhide HI).1, (unhide HI).2.2.2⟩⟩
        case round =>
          clear HI
          obtain ⟨r, N3, P0, hr, rfl, HR⟩ := hrel
          by_cases g9 : r < 60
          · have j1 : (r : Int) < 60 := by omega
            go_wp2_with fail
            go_loopw [31] (fun i wr => ∃ (k N1 : Nat) (R : PS), k ≤ 2 ∧ i = .int .i64 (k : Int) ∧ Hid (LA k N1 (1800 + 12 * r) P0 R ∧ Pair wr w.heap.size gp R ∧ Below w.heap.size w wr)) (fun i _ => (2 - intOf i).toNat)
            case atStart => exact ⟨0, N3, P0, by omega, by simp, hide ⟨⟨(unhide HR).1.cnt, fun i hi => (by omega), fun i _ _ => ⟨rfl, rfl⟩⟩, (unhide HR).2⟩⟩
            case round =>
              have HRR := hide (unhide HR).1
              clear HR
              obtain ⟨ka, N1, R, hka, rfl, HA⟩ := hrel
              obtain rfl | rfl | rfl : ka = 0 ∨ ka = 1 ∨ ka = 2 := by omega
              · try simp only [Int.cast_ofNat_Int]
                obtain ⟨gi, hgi⟩ : ∃ z, R.g 0 = z := ⟨_, rfl⟩
                have HGI := hide hgi
                clear hgi
                have hN9 : N1 ≤ 100000 := by have := (unhide HA).1.cnt.cnt; omega
                have z0 : wr.cell? ⟨gp, 0, none⟩ = some (.pointer (some ⟨gi, 0, none⟩)) := by rw [← unhide HGI]; exact (unhide HA).2.1.row.cell 0
                go_wp2_with fail
                clear z0
                refine Calls.mono (tick_any w.heap.size gi (R.m 0) (R.vq 0) (R.s 0) wr (by rw [← unhide HGI]; exact (unhide HA).2.1.ch 0 (by decide)) ((unhide HA).1.cnt.ordr.good.inv 0 (by decide)).q (by rw [((unhide HA).1.cnt.ordr.good.inv 0 (by decide)).conn]; decide) (((unhide HA).1.cnt.ordr.good.inv 0 (by decide)).ti (by omega))) ?_
                intro r9 w1 h3
                rw [← unhide HGI] at h3
                obtain ⟨rfl, h4, b4⟩ := tick_end (unhide HA).2.1 (by decide) h3
                have HLA := hide (unhide HA).1
                have HB := hide ((unhide HA).2.2.trans b4)
                have hg := ((unhide HLA).cnt.tick (i := 0) (by decide)).ordr.good
                obtain ⟨T, hT⟩ : ∃ z, P1 R 0 (tickS (R.s 0)) (R.vq 0) = z := ⟨_, rfl⟩
                have HGT : Hid (T.g 0 = gi) := hide (by rw [← hT]; exact unhide HGI)
                have HT := hide hT
                rw [hT] at h4 hg
                have HI := hide h4
                have HG := hide hg
                obtain ⟨uw, huw⟩ : ∃ z, T.W 0 = z := ⟨_, rfl⟩
                have HUW := hide huw
                clear huw hT h3 h4 b4 hg HA HGI
                go_wp2_with fail
                refine wp_region_T (S := fun W => W.cell? ⟨gp, 0, none⟩ = some (.pointer (some ⟨gi, 0, none⟩)) ∧ W.cell? ⟨gp, 2, none⟩ = some uw) (fun i => decide (1 ≤ i ∧ i < 16)) (by kernel_rfl) ⟨by rw [← unhide HGT]; exact (unhide HI).row.cell 0, by rw [← unhide HUW]; exact (unhide HI).row.cell 2⟩ (fun hHeld => ?_)
                have bd : Below w1.heap.size w1 w1.drew := Below.drew (Below.refl _ _)
                have HI1 := hide ((unhide HI).call bd)
                have HB1 := hide ((unhide HB).trans (bd.mono (unhide HI).low))
                obtain ⟨w2, hw2⟩ : ∃ z, w1.drew = z := ⟨_, rfl⟩
                rw [hw2] at HI1 HB1 hHeld ⊢
                clear hw2 bd HI HB
                refine wpAnyT_pure (i := 0) (oi := { dst := some 41, op := Op.move (Operand.tmp 3), type := 59, pos := "law.go:211", after := #[], guard := none }) (v := .pointer (some ⟨gp, 0, none⟩)) rfl (by kernel_rfl) (by kernel_rfl) (by kernel_rfl) rfl (fun _ _ _ h => h) (Or.inl ⟨by rfl, ?_⟩) ?_
                · intro w hSw
                  first
                    | rfl
                    | (go_simp; done)
                try simp only [Act.put, List.setIfInBounds_toArray, List.set_cons_zero, List.set_cons_succ]
                refine wpAnyT_pure (i := 16) (oi := { dst := some 57, op := Op.nilCheck (Operand.tmp 41), type := 0, pos := "law.go:211", after := #[{ on := 0, ground := Ground.data }], guard := none }) (v := .pointer (some ⟨gp, 0, none⟩)) rfl (by kernel_rfl) (by kernel_rfl) (by kernel_rfl) rfl (fun _ _ _ h => h) (Or.inl ⟨by rfl, ?_⟩) ?_
                · intro w hSw
                  first
                    | rfl
                    | (go_simp; done)
                try simp only [Act.put, List.setIfInBounds_toArray, List.set_cons_zero, List.set_cons_succ]
                refine wpAnyT_pure (i := 17) (oi := { dst := some 58, op := Op.fieldAddr 65 (Operand.tmp 57) 1, type := 0, pos := "law.go:211", after := #[{ on := 16, ground := Ground.data }], guard := none }) (v := .pointer (some ⟨gp, 2, none⟩)) rfl (by kernel_rfl) (by kernel_rfl) (by kernel_rfl) rfl (fun _ _ _ h => h) (Or.inl ⟨by rfl, ?_⟩) ?_
                · intro w hSw
                  first
                    | rfl
                    | (go_simp; done)
                try simp only [Act.put, List.setIfInBounds_toArray, List.set_cons_zero, List.set_cons_succ]
                refine wpAnyT_take (i := 1) (oi := { dst := some 42, op := Op.move (Operand.tmp 6), type := 3, pos := "law.go:211", after := #[], guard := none }) (v := .int .i64 0) rfl (by kernel_rfl) (by kernel_rfl) (by kernel_rfl) (by kernel_rfl) (fun _ _ _ h => h) (Or.inl ⟨by rfl, ?_⟩) hHeld ?_
                · intro w hSw
                  obtain ⟨h0, h1⟩ := hSw
                  first
                    | rfl
                    | (go_simp; done)
                try simp only [Act.put, List.setIfInBounds_toArray, List.set_cons_zero, List.set_cons_succ]
                refine wpAnyT_take (i := 2) (oi := { dst := some 43, op := Op.move (Operand.tmp 3), type := 59, pos := "law.go:211", after := #[], guard := none }) (v := .pointer (some ⟨gp, 0, none⟩)) rfl (by kernel_rfl) (by kernel_rfl) (by kernel_rfl) (by kernel_rfl) (fun _ _ _ h => h) (Or.inl ⟨by rfl, ?_⟩) hHeld ?_
                · intro w hSw
                  obtain ⟨h0, h1⟩ := hSw
                  first
                    | rfl
                    | (go_simp; done)
                try simp only [Act.put, List.setIfInBounds_toArray, List.set_cons_zero, List.set_cons_succ]
                refine wpAnyT_take (i := 3) (oi := { dst := some 44, op := Op.move (Operand.tmp 6), type := 3, pos := "law.go:211", after := #[], guard := none }) (v := .int .i64 0) rfl (by kernel_rfl) (by kernel_rfl) (by kernel_rfl) (by kernel_rfl) (fun _ _ _ h => h) (Or.inl ⟨by rfl, ?_⟩) hHeld ?_
                · intro w hSw
                  obtain ⟨h0, h1⟩ := hSw
                  first
                    | rfl
                    | (go_simp; done)
                try simp only [Act.put, List.setIfInBounds_toArray, List.set_cons_zero, List.set_cons_succ]
                refine wpAnyT_take (i := 4) (oi := { dst := some 45, op := Op.nilCheck (Operand.tmp 43), type := 0, pos := "law.go:211", after := #[{ on := 2, ground := Ground.data }], guard := none }) (v := .pointer (some ⟨gp, 0, none⟩)) rfl (by kernel_rfl) (by kernel_rfl) (by kernel_rfl) (by kernel_rfl) (fun _ _ _ h => h) (Or.inl ⟨by rfl, ?_⟩) hHeld ?_
                · intro w hSw
                  obtain ⟨h0, h1⟩ := hSw
                  first
                    | rfl
                    | (go_simp; done)
                try simp only [Act.put, List.setIfInBounds_toArray, List.set_cons_zero, List.set_cons_succ]
                refine wpAnyT_take (i := 5) (oi := { dst := some 46, op := Op.fieldAddr 65 (Operand.tmp 45) 1, type := 0, pos := "law.go:211", after := #[{ on := 4, ground := Ground.data }], guard := none }) (v := .pointer (some ⟨gp, 2, none⟩)) rfl (by kernel_rfl) (by kernel_rfl) (by kernel_rfl) (by kernel_rfl) (fun _ _ _ h => h) (Or.inl ⟨by rfl, ?_⟩) hHeld ?_
                · intro w hSw
                  obtain ⟨h0, h1⟩ := hSw
                  first
                    | rfl
                    | (go_simp; done)
                try simp only [Act.put, List.setIfInBounds_toArray, List.set_cons_zero, List.set_cons_succ]
                refine wpAnyT_take (i := 6) (oi := { dst := some 47, op := Op.indexAddr 62 (Operand.tmp 46) (Operand.tmp 44), type := 0, pos := "law.go:211", after := #[{ on := 5, ground := Ground.data }, { on := 3, ground := Ground.data }], guard := none }) (v := .pointer (some ⟨gp, 2, none⟩)) rfl (by kernel_rfl) (by kernel_rfl) (by kernel_rfl) (by kernel_rfl) (fun _ _ _ h => h) (Or.inl ⟨by rfl, ?_⟩) hHeld ?_
                · intro w hSw
                  obtain ⟨h0, h1⟩ := hSw
                  first
                    | rfl
                    | (go_simp; done)
                try simp only [Act.put, List.setIfInBounds_toArray, List.set_cons_zero, List.set_cons_succ]
                refine wpAnyT_take (i := 7) (oi := { dst := some 48, op := Op.load 48 (Operand.tmp 47), type := 48, pos := "law.go:211", after := #[{ on := 6, ground := Ground.data }], guard := none }) (v := uw) rfl (by kernel_rfl) (by kernel_rfl) (by kernel_rfl) (by kernel_rfl) (fun _ _ _ h => h) (Or.inl ⟨by rfl, ?_⟩) hHeld ?_
                · intro w hSw
                  obtain ⟨h0, h1⟩ := hSw
                  first
                    | rfl
                    | (go_simp; done)
                try simp only [Act.put, List.setIfInBounds_toArray, List.set_cons_zero, List.set_cons_succ]
                refine wpAnyT_take (i := 8) (oi := { dst := some 49, op := Op.move (Operand.tmp 3), type := 59, pos := "law.go:211", after := #[], guard := none }) (v := .pointer (some ⟨gp, 0, none⟩)) rfl (by kernel_rfl) (by kernel_rfl) (by kernel_rfl) (by kernel_rfl) (fun _ _ _ h => h) (Or.inl ⟨by rfl, ?_⟩) hHeld ?_
                · intro w hSw
                  obtain ⟨h0, h1⟩ := hSw
                  first
                    | rfl
                    | (go_simp; done)
                try simp only [Act.put, List.setIfInBounds_toArray, List.set_cons_zero, List.set_cons_succ]
                refine wpAnyT_take (i := 9) (oi := { dst := some 50, op := Op.move (Operand.tmp 6), type := 3, pos := "law.go:211", after := #[], guard := none }) (v := .int .i64 0) rfl (by kernel_rfl) (by kernel_rfl) (by kernel_rfl) (by kernel_rfl) (fun _ _ _ h => h) (Or.inl ⟨by rfl, ?_⟩) hHeld ?_
                · intro w hSw
                  obtain ⟨h0, h1⟩ := hSw
                  first
                    | rfl
                    | (go_simp; done)
                try simp only [Act.put, List.setIfInBounds_toArray, List.set_cons_zero, List.set_cons_succ]
                refine wpAnyT_take (i := 10) (oi := { dst := some 51, op := Op.nilCheck (Operand.tmp 49), type := 0, pos := "law.go:211", after := #[{ on := 8, ground := Ground.data }], guard := none }) (v := .pointer (some ⟨gp, 0, none⟩)) rfl (by kernel_rfl) (by kernel_rfl) (by kernel_rfl) (by kernel_rfl) (fun _ _ _ h => h) (Or.inl ⟨by rfl, ?_⟩) hHeld ?_
                · intro w hSw
                  obtain ⟨h0, h1⟩ := hSw
                  first
                    | rfl
                    | (go_simp; done)
                try simp only [Act.put, List.setIfInBounds_toArray, List.set_cons_zero, List.set_cons_succ]
                refine wpAnyT_take (i := 11) (oi := { dst := some 52, op := Op.fieldAddr 65 (Operand.tmp 51) 0, type := 0, pos := "law.go:211", after := #[{ on := 10, ground := Ground.data }], guard := none }) (v := .pointer (some ⟨gp, 0, none⟩)) rfl (by kernel_rfl) (by kernel_rfl) (by kernel_rfl) (by kernel_rfl) (fun _ _ _ h => h) (Or.inl ⟨by rfl, ?_⟩) hHeld ?_
                · intro w hSw
                  obtain ⟨h0, h1⟩ := hSw
                  first
                    | rfl
                    | (go_simp; done)
                try simp only [Act.put, List.setIfInBounds_toArray, List.set_cons_zero, List.set_cons_succ]
                refine wpAnyT_take (i := 12) (oi := { dst := some 53, op := Op.indexAddr 61 (Operand.tmp 52) (Operand.tmp 50), type := 0, pos := "law.go:211", after := #[{ on := 11, ground := Ground.data }, { on := 9, ground := Ground.data }], guard := none }) (v := .pointer (some ⟨gp, 0, none⟩)) rfl (by kernel_rfl) (by kernel_rfl) (by kernel_rfl) (by kernel_rfl) (fun _ _ _ h => h) (Or.inl ⟨by rfl, ?_⟩) hHeld ?_
                · intro w hSw
                  obtain ⟨h0, h1⟩ := hSw
                  first
                    | rfl
                    | (go_simp; done)
                try simp only [Act.put, List.setIfInBounds_toArray, List.set_cons_zero, List.set_cons_succ]
                refine wpAnyT_take (i := 13) (oi := { dst := some 54, op := Op.load 23 (Operand.tmp 53), type := 23, pos := "law.go:211", after := #[{ on := 12, ground := Ground.data }], guard := none }) (v := .pointer (some ⟨gi, 0, none⟩)) rfl (by kernel_rfl) (by kernel_rfl) (by kernel_rfl) (by kernel_rfl) (fun _ _ _ h => h) (Or.inl ⟨by rfl, ?_⟩) hHeld ?_
                · intro w hSw
                  obtain ⟨h0, h1⟩ := hSw
                  first
                    | rfl
                    | (go_simp; done)
                try simp only [Act.put, List.setIfInBounds_toArray, List.set_cons_zero, List.set_cons_succ]
                refine wpAnyT_one (i := 14) (o := { dst := some 55, op := Op.call { callee := Callee.value (Operand.func 22), args := #[Operand.tmp 54], argTypes := #[23] }, type := 48, pos := "law.go:211", after := #[{ on := 13, ground := Ground.data }], guard := none }) (by kernel_rfl) rfl (fun K hK => ?_)
                go_simp
                refine Calls.mono (out_any w.heap.size gi (T.m 0) (T.vq 0) (T.s 0) w2 (by rw [← unhide HGT]; exact (unhide HI1).ch 0 (by decide)) (((unhide HG).inv 0 (by decide)).ok (by decide) (by omega)) (((unhide HG).inv 0 (by decide)).ti (by omega)) ((unhide HG).inv 0 (by decide)).bo) ?_
                intro r9 w3 h3
                rw [← unhide HGT] at h3
                obtain ⟨L, l, rfl, i3, h4, b4⟩ := out_endP (unhide HI1) (by decide) h3
                have HI3 := hide h4
                have HB3 := hide ((unhide HB1).trans b4)
                have HOW := hide i3.own
                have HKY := hide i3.key
                have HFB : Hid (∀ f ∈ L, Own w3 f.v f.body) := hide (fun f hf => own_base (i3.bod f hf))
                obtain ⟨al, cl, hal⟩ := own_one i3.own
                subst hal
                have hS3 := And.intro (show w3.cell? ⟨gp, 0, none⟩ = some (.pointer (some ⟨gi, 0, none⟩)) by rw [← unhide HGT]; exact (unhide HI3).row.cell 0) (show w3.cell? ⟨gp, 2, none⟩ = some uw by rw [← unhide HUW]; exact (unhide HI3).row.cell 2)
                have HL4 : Hid (L.length ≤ 4) := hide (by have := congrArg List.length (unhide HKY); rw [List.length_map] at this; have := outs_len4 (T.s 0); omega)
                clear h3 i3 h4 b4 HI1 HB1 hHeld
                go_wp2_with fail
                refine hK.out _ _ (fun _ => hS3) ?_
                clear hK K
                try simp only [Act.put, List.setIfInBounds_toArray, List.set_cons_zero, List.set_cons_succ]
                refine wpAnyT_one (i := 15) (o := { dst := some 56, op := Op.call { callee := Callee.builtin Builtin.append, args := #[Operand.tmp 48, Operand.tmp 55], argTypes := #[48, 48] }, type := 48, pos := "law.go:211", after := #[{ on := 7, ground := Ground.data }, { on := 14, ground := Ground.data }, { on := 14, ground := Ground.chain }], guard := none }) (by kernel_rfl) rfl (fun K hK => ?_)
                refine wp_app_src (Operand.tmp 48) (Operand.tmp 55) 48 34 _ 4 48 Try.underlying48 infoFr (by simp [Value.cells]) (by decide) rfl w.heap.size uw (T.F 0).length (fcs (T.F 0)) rfl (by rw [← unhide HUW]; exact (unhide HI3).way 0 (by decide)) al L.length cl (fcs L) rfl (unhide HOW).1 (fun e => by have := unhide HOW; rw [e] at this; exact own_none this) (own_news (unhide HOW)) (fcs_one (fun f hf => (unhide HFB f hf).one)) (by have := (unhide HG).fl 0 (by decide); have := unhide HL4; unfold maxLen; omega) (by have := (unhide HG).fl 0 (by decide); have := unhide HL4; omega) (unhide HI3).low (fun tv w6 hv6 ho6 hk6 => ?_)
                obtain ⟨at6, ct6, htv⟩ := own_one hv6
                subst htv
                have ho6b : Only (fun k => (T.W 0).ownBlock = some k) w3 w6 := by rw [unhide HUW]; exact ho6
                have HI6 := hide ((unhide HI3).setW 0 (by decide) (x := T.F 0 ++ L) ho6b (by rw [List.length_append, fcs_app]; exact hv6) (by rw [← unhide HUW] at hk6; exact hk6) (fun f hf => ?_))
                rotate_left
                · rcases List.mem_append.1 hf with hf | hf
                  · exact own_only ((unhide HI3).fb 0 (by decide) f hf) ho6b (avoid_own ((unhide HI3).way 0 (by decide)) (by decide) _ _ _ _ _ ((unhide HI3).fb 0 (by decide) f hf))
                  · exact own_only (unhide HFB f hf) ho6b (avoid_own ((unhide HI3).way 0 (by decide)) (by decide) _ _ _ _ _ (unhide HFB f hf))
                have HB6 := hide ((unhide HB3).trans (ho6b.below (unhide HI3).low (fun k hk => (((unhide HI3).way 0 (by decide)).lt k hk).1)))
                have hr6 : RowAt w6 gp 65 _ := (unhide HI3).row.only ho6b (fun e => tag_ne ((unhide HI3).way 0 (by decide)) (unhide HI3).row (by decide) e)
                have hS6 := And.intro (show w6.cell? ⟨gp, 0, none⟩ = some (.pointer (some ⟨gi, 0, none⟩)) by rw [← unhide HGT]; exact hr6.cell 0) (show w6.cell? ⟨gp, 2, none⟩ = some uw by rw [← unhide HUW]; exact hr6.cell 2)
                have HF6 : Hid (w6.frozen? ⟨gp, 2, none⟩ = false) := hide (hr6.frozen 2)
                have HGBP := hide (unhide HI3).gB
                have HSZ6 := hide (Nat.le_trans (unhide HI3).low ho6.size)
                clear hv6 ho6 ho6b hk6 HI3 HB3 HOW HFB hr6 hS3
                refine hK.out _ _ (fun _ => hS6) ?_
                clear hK K
                try simp only [Act.put, List.setIfInBounds_toArray, List.set_cons_zero, List.set_cons_succ]
                refine wpAnyT_pure (i := 18) (oi := { dst := some 59, op := Op.indexAddr 62 (Operand.tmp 58) (Operand.tmp 42), type := 0, pos := "law.go:211", after := #[{ on := 17, ground := Ground.data }, { on := 1, ground := Ground.data }, { on := 0, ground := Ground.phase }, { on := 1, ground := Ground.phase }, { on := 2, ground := Ground.phase }, { on := 3, ground := Ground.phase }, { on := 4, ground := Ground.phase }, { on := 5, ground := Ground.phase }, { on := 6, ground := Ground.phase }, { on := 7, ground := Ground.phase }, { on := 8, ground := Ground.phase }, { on := 9, ground := Ground.phase }, { on := 10, ground := Ground.phase }, { on := 11, ground := Ground.phase }, { on := 12, ground := Ground.phase }, { on := 13, ground := Ground.phase }, { on := 14, ground := Ground.phase }, { on := 15, ground := Ground.phase }], guard := none }) (v := .pointer (some ⟨gp, 2, none⟩)) rfl (by kernel_rfl) (by kernel_rfl) (by kernel_rfl) rfl (fun _ _ _ h => h) (Or.inl ⟨by rfl, ?_⟩) ?_
                · intro w hSw
                  first
                    | rfl
                    | (go_simp; done)
                try simp only [Act.put, List.setIfInBounds_toArray, List.set_cons_zero, List.set_cons_succ]
                have f6 := unhide HF6
                have s6 := hS6.2
                refine wpAnyT_one (i := 19) (o := { dst := none, op := Op.store 48 (Operand.tmp 59) (Operand.tmp 56), type := 0, pos := "law.go:211", after := #[{ on := 18, ground := Ground.data }, { on := 15, ground := Ground.data }, { on := 15, ground := Ground.chain }, { on := 0, ground := Ground.phase }, { on := 1, ground := Ground.phase }, { on := 2, ground := Ground.phase }, { on := 3, ground := Ground.phase }, { on := 4, ground := Ground.phase }, { on := 5, ground := Ground.phase }, { on := 6, ground := Ground.phase }, { on := 7, ground := Ground.phase }, { on := 8, ground := Ground.phase }, { on := 9, ground := Ground.phase }, { on := 10, ground := Ground.phase }, { on := 11, ground := Ground.phase }, { on := 12, ground := Ground.phase }, { on := 13, ground := Ground.phase }, { on := 14, ground := Ground.phase }, { on := 15, ground := Ground.phase }], guard := none }) (by kernel_rfl) rfl (fun K hK => ?_)
                go_simp
                refine hK.out _ _ (fun h => by cases h) ?_
                clear hK K
                try simp only [Act.put, List.setIfInBounds_toArray, List.set_cons_zero, List.set_cons_succ]
                refine wpAnyT_done (by kernel_rfl) ?_ _
                have o7 : Only (· = gp) w6 (w6.setCell ⟨gp, 2, none⟩ (.slice at6 ((T.F 0).length + L.length) ct6)) := Only.set (p := (· = gp)) (Only.refl _ _) gp 2 _ rfl
                have HE := hide (And.intro (LA.next (unhide HLA) (i := 0) (by decide) (.slice at6 ((T.F 0).length + L.length) ct6) (unhide HT) (unhide HKY)) (And.intro (unhide HI6) ((unhide HB6).trans (o7.below (unhide HSZ6) (fun k hk => by rw [hk]; exact unhide HGBP)))))
                clear o7
                clear HI6 HB6 HLA HT f6 s6 hS6 HF6
                go_wp2_with fail
                go_roundw
                case rel => exact ⟨0 + 1, N1 + 2, _, by omega, by simp, HE⟩
                case measure => simp [intOf]
              · try simp only [Int.cast_ofNat_Int]
                obtain ⟨gi, hgi⟩ : ∃ z, R.g 1 = z := ⟨_, rfl⟩
                have HGI := hide hgi
                clear hgi
                have hN9 : N1 ≤ 100000 := by have := (unhide HA).1.cnt.cnt; omega
                have z0 : wr.cell? ⟨gp, 1, none⟩ = some (.pointer (some ⟨gi, 0, none⟩)) := by rw [← unhide HGI]; exact (unhide HA).2.1.row.cell 1
                go_wp2_with fail
                clear z0
                refine Calls.mono (tick_any w.heap.size gi (R.m 1) (R.vq 1) (R.s 1) wr (by rw [← unhide HGI]; exact (unhide HA).2.1.ch 1 (by decide)) ((unhide HA).1.cnt.ordr.good.inv 1 (by decide)).q (by rw [((unhide HA).1.cnt.ordr.good.inv 1 (by decide)).conn]; decide) (((unhide HA).1.cnt.ordr.good.inv 1 (by decide)).ti (by omega))) ?_
                intro r9 w1 h3
                rw [← unhide HGI] at h3
                obtain ⟨rfl, h4, b4⟩ := tick_end (unhide HA).2.1 (by decide) h3
                have HLA := hide (unhide HA).1
                have HB := hide ((unhide HA).2.2.trans b4)
                have hg := ((unhide HLA).cnt.tick (i := 1) (by decide)).ordr.good
                obtain ⟨T, hT⟩ : ∃ z, P1 R 1 (tickS (R.s 1)) (R.vq 1) = z := ⟨_, rfl⟩
                have HGT : Hid (T.g 1 = gi) := hide (by rw [← hT]; exact unhide HGI)
                have HT := hide hT
                rw [hT] at h4 hg
                have HI := hide h4
                have HG := hide hg
                obtain ⟨uw, huw⟩ : ∃ z, T.W 1 = z := ⟨_, rfl⟩
                have HUW := hide huw
                clear huw hT h3 h4 b4 hg HA HGI
                go_wp2_with fail
                refine wp_region_T (S := fun W => W.cell? ⟨gp, 1, none⟩ = some (.pointer (some ⟨gi, 0, none⟩)) ∧ W.cell? ⟨gp, 3, none⟩ = some uw) (fun i => decide (1 ≤ i ∧ i < 16)) (by kernel_rfl) ⟨by rw [← unhide HGT]; exact (unhide HI).row.cell 1, by rw [← unhide HUW]; exact (unhide HI).row.cell 3⟩ (fun hHeld => ?_)
                have bd : Below w1.heap.size w1 w1.drew := Below.drew (Below.refl _ _)
                have HI1 := hide ((unhide HI).call bd)
                have HB1 := hide ((unhide HB).trans (bd.mono (unhide HI).low))
                obtain ⟨w2, hw2⟩ : ∃ z, w1.drew = z := ⟨_, rfl⟩
                rw [hw2] at HI1 HB1 hHeld ⊢
                clear hw2 bd HI HB
                refine wpAnyT_pure (i := 0) (oi := { dst := some 41, op := Op.move (Operand.tmp 3), type := 59, pos := "law.go:211", after := #[], guard := none }) (v := .pointer (some ⟨gp, 0, none⟩)) rfl (by kernel_rfl) (by kernel_rfl) (by kernel_rfl) rfl (fun _ _ _ h => h) (Or.inl ⟨by rfl, ?_⟩) ?_
                · intro w hSw
                  first
                    | rfl
                    | (go_simp; done)
                try simp only [Act.put, List.setIfInBounds_toArray, List.set_cons_zero, List.set_cons_succ]
                refine wpAnyT_pure (i := 16) (oi := { dst := some 57, op := Op.nilCheck (Operand.tmp 41), type := 0, pos := "law.go:211", after := #[{ on := 0, ground := Ground.data }], guard := none }) (v := .pointer (some ⟨gp, 0, none⟩)) rfl (by kernel_rfl) (by kernel_rfl) (by kernel_rfl) rfl (fun _ _ _ h => h) (Or.inl ⟨by rfl, ?_⟩) ?_
                · intro w hSw
                  first
                    | rfl
                    | (go_simp; done)
                try simp only [Act.put, List.setIfInBounds_toArray, List.set_cons_zero, List.set_cons_succ]
                refine wpAnyT_pure (i := 17) (oi := { dst := some 58, op := Op.fieldAddr 65 (Operand.tmp 57) 1, type := 0, pos := "law.go:211", after := #[{ on := 16, ground := Ground.data }], guard := none }) (v := .pointer (some ⟨gp, 2, none⟩)) rfl (by kernel_rfl) (by kernel_rfl) (by kernel_rfl) rfl (fun _ _ _ h => h) (Or.inl ⟨by rfl, ?_⟩) ?_
                · intro w hSw
                  first
                    | rfl
                    | (go_simp; done)
                try simp only [Act.put, List.setIfInBounds_toArray, List.set_cons_zero, List.set_cons_succ]
                refine wpAnyT_take (i := 1) (oi := { dst := some 42, op := Op.move (Operand.tmp 6), type := 3, pos := "law.go:211", after := #[], guard := none }) (v := .int .i64 1) rfl (by kernel_rfl) (by kernel_rfl) (by kernel_rfl) (by kernel_rfl) (fun _ _ _ h => h) (Or.inl ⟨by rfl, ?_⟩) hHeld ?_
                · intro w hSw
                  obtain ⟨h0, h1⟩ := hSw
                  first
                    | rfl
                    | (go_simp; done)
                try simp only [Act.put, List.setIfInBounds_toArray, List.set_cons_zero, List.set_cons_succ]
                refine wpAnyT_take (i := 2) (oi := { dst := some 43, op := Op.move (Operand.tmp 3), type := 59, pos := "law.go:211", after := #[], guard := none }) (v := .pointer (some ⟨gp, 0, none⟩)) rfl (by kernel_rfl) (by kernel_rfl) (by kernel_rfl) (by kernel_rfl) (fun _ _ _ h => h) (Or.inl ⟨by rfl, ?_⟩) hHeld ?_
                · intro w hSw
                  obtain ⟨h0, h1⟩ := hSw
                  first
                    | rfl
                    | (go_simp; done)
                try simp only [Act.put, List.setIfInBounds_toArray, List.set_cons_zero, List.set_cons_succ]
                refine wpAnyT_take (i := 3) (oi := { dst := some 44, op := Op.move (Operand.tmp 6), type := 3, pos := "law.go:211", after := #[], guard := none }) (v := .int .i64 1) rfl (by kernel_rfl) (by kernel_rfl) (by kernel_rfl) (by kernel_rfl) (fun _ _ _ h => h) (Or.inl ⟨by rfl, ?_⟩) hHeld ?_
                · intro w hSw
                  obtain ⟨h0, h1⟩ := hSw
                  first
                    | rfl
                    | (go_simp; done)
                try simp only [Act.put, List.setIfInBounds_toArray, List.set_cons_zero, List.set_cons_succ]
                refine wpAnyT_take (i := 4) (oi := { dst := some 45, op := Op.nilCheck (Operand.tmp 43), type := 0, pos := "law.go:211", after := #[{ on := 2, ground := Ground.data }], guard := none }) (v := .pointer (some ⟨gp, 0, none⟩)) rfl (by kernel_rfl) (by kernel_rfl) (by kernel_rfl) (by kernel_rfl) (fun _ _ _ h => h) (Or.inl ⟨by rfl, ?_⟩) hHeld ?_
                · intro w hSw
                  obtain ⟨h0, h1⟩ := hSw
                  first
                    | rfl
                    | (go_simp; done)
                try simp only [Act.put, List.setIfInBounds_toArray, List.set_cons_zero, List.set_cons_succ]
                refine wpAnyT_take (i := 5) (oi := { dst := some 46, op := Op.fieldAddr 65 (Operand.tmp 45) 1, type := 0, pos := "law.go:211", after := #[{ on := 4, ground := Ground.data }], guard := none }) (v := .pointer (some ⟨gp, 2, none⟩)) rfl (by kernel_rfl) (by kernel_rfl) (by kernel_rfl) (by kernel_rfl) (fun _ _ _ h => h) (Or.inl ⟨by rfl, ?_⟩) hHeld ?_
                · intro w hSw
                  obtain ⟨h0, h1⟩ := hSw
                  first
                    | rfl
                    | (go_simp; done)
                try simp only [Act.put, List.setIfInBounds_toArray, List.set_cons_zero, List.set_cons_succ]
                refine wpAnyT_take (i := 6) (oi := { dst := some 47, op := Op.indexAddr 62 (Operand.tmp 46) (Operand.tmp 44), type := 0, pos := "law.go:211", after := #[{ on := 5, ground := Ground.data }, { on := 3, ground := Ground.data }], guard := none }) (v := .pointer (some ⟨gp, 3, none⟩)) rfl (by kernel_rfl) (by kernel_rfl) (by kernel_rfl) (by kernel_rfl) (fun _ _ _ h => h) (Or.inl ⟨by rfl, ?_⟩) hHeld ?_
                · intro w hSw
                  obtain ⟨h0, h1⟩ := hSw
                  first
                    | rfl
                    | (go_simp; done)
                try simp only [Act.put, List.setIfInBounds_toArray, List.set_cons_zero, List.set_cons_succ]
                refine wpAnyT_take (i := 7) (oi := { dst := some 48, op := Op.load 48 (Operand.tmp 47), type := 48, pos := "law.go:211", after := #[{ on := 6, ground := Ground.data }], guard := none }) (v := uw) rfl (by kernel_rfl) (by kernel_rfl) (by kernel_rfl) (by kernel_rfl) (fun _ _ _ h => h) (Or.inl ⟨by rfl, ?_⟩) hHeld ?_
                · intro w hSw
                  obtain ⟨h0, h1⟩ := hSw
                  first
                    | rfl
                    | (go_simp; done)
                try simp only [Act.put, List.setIfInBounds_toArray, List.set_cons_zero, List.set_cons_succ]
                refine wpAnyT_take (i := 8) (oi := { dst := some 49, op := Op.move (Operand.tmp 3), type := 59, pos := "law.go:211", after := #[], guard := none }) (v := .pointer (some ⟨gp, 0, none⟩)) rfl (by kernel_rfl) (by kernel_rfl) (by kernel_rfl) (by kernel_rfl) (fun _ _ _ h => h) (Or.inl ⟨by rfl, ?_⟩) hHeld ?_
                · intro w hSw
                  obtain ⟨h0, h1⟩ := hSw
                  first
                    | rfl
                    | (go_simp; done)
                try simp only [Act.put, List.setIfInBounds_toArray, List.set_cons_zero, List.set_cons_succ]
                refine wpAnyT_take (i := 9) (oi := { dst := some 50, op := Op.move (Operand.tmp 6), type := 3, pos := "law.go:211", after := #[], guard := none }) (v := .int .i64 1) rfl (by kernel_rfl) (by kernel_rfl) (by kernel_rfl) (by kernel_rfl) (fun _ _ _ h => h) (Or.inl ⟨by rfl, ?_⟩) hHeld ?_
                · intro w hSw
                  obtain ⟨h0, h1⟩ := hSw
                  first
                    | rfl
                    | (go_simp; done)
                try simp only [Act.put, List.setIfInBounds_toArray, List.set_cons_zero, List.set_cons_succ]
                refine wpAnyT_take (i := 10) (oi := { dst := some 51, op := Op.nilCheck (Operand.tmp 49), type := 0, pos := "law.go:211", after := #[{ on := 8, ground := Ground.data }], guard := none }) (v := .pointer (some ⟨gp, 0, none⟩)) rfl (by kernel_rfl) (by kernel_rfl) (by kernel_rfl) (by kernel_rfl) (fun _ _ _ h => h) (Or.inl ⟨by rfl, ?_⟩) hHeld ?_
                · intro w hSw
                  obtain ⟨h0, h1⟩ := hSw
                  first
                    | rfl
                    | (go_simp; done)
                try simp only [Act.put, List.setIfInBounds_toArray, List.set_cons_zero, List.set_cons_succ]
                refine wpAnyT_take (i := 11) (oi := { dst := some 52, op := Op.fieldAddr 65 (Operand.tmp 51) 0, type := 0, pos := "law.go:211", after := #[{ on := 10, ground := Ground.data }], guard := none }) (v := .pointer (some ⟨gp, 0, none⟩)) rfl (by kernel_rfl) (by kernel_rfl) (by kernel_rfl) (by kernel_rfl) (fun _ _ _ h => h) (Or.inl ⟨by rfl, ?_⟩) hHeld ?_
                · intro w hSw
                  obtain ⟨h0, h1⟩ := hSw
                  first
                    | rfl
                    | (go_simp; done)
                try simp only [Act.put, List.setIfInBounds_toArray, List.set_cons_zero, List.set_cons_succ]
                refine wpAnyT_take (i := 12) (oi := { dst := some 53, op := Op.indexAddr 61 (Operand.tmp 52) (Operand.tmp 50), type := 0, pos := "law.go:211", after := #[{ on := 11, ground := Ground.data }, { on := 9, ground := Ground.data }], guard := none }) (v := .pointer (some ⟨gp, 1, none⟩)) rfl (by kernel_rfl) (by kernel_rfl) (by kernel_rfl) (by kernel_rfl) (fun _ _ _ h => h) (Or.inl ⟨by rfl, ?_⟩) hHeld ?_
                · intro w hSw
                  obtain ⟨h0, h1⟩ := hSw
                  first
                    | rfl
                    | (go_simp; done)
                try simp only [Act.put, List.setIfInBounds_toArray, List.set_cons_zero, List.set_cons_succ]
                refine wpAnyT_take (i := 13) (oi := { dst := some 54, op := Op.load 23 (Operand.tmp 53), type := 23, pos := "law.go:211", after := #[{ on := 12, ground := Ground.data }], guard := none }) (v := .pointer (some ⟨gi, 0, none⟩)) rfl (by kernel_rfl) (by kernel_rfl) (by kernel_rfl) (by kernel_rfl) (fun _ _ _ h => h) (Or.inl ⟨by rfl, ?_⟩) hHeld ?_
                · intro w hSw
                  obtain ⟨h0, h1⟩ := hSw
                  first
                    | rfl
                    | (go_simp; done)
                try simp only [Act.put, List.setIfInBounds_toArray, List.set_cons_zero, List.set_cons_succ]
                refine wpAnyT_one (i := 14) (o := { dst := some 55, op := Op.call { callee := Callee.value (Operand.func 22), args := #[Operand.tmp 54], argTypes := #[23] }, type := 48, pos := "law.go:211", after := #[{ on := 13, ground := Ground.data }], guard := none }) (by kernel_rfl) rfl (fun K hK => ?_)
                go_simp
                refine Calls.mono (out_any w.heap.size gi (T.m 1) (T.vq 1) (T.s 1) w2 (by rw [← unhide HGT]; exact (unhide HI1).ch 1 (by decide)) (((unhide HG).inv 1 (by decide)).ok (by decide) (by omega)) (((unhide HG).inv 1 (by decide)).ti (by omega)) ((unhide HG).inv 1 (by decide)).bo) ?_
                intro r9 w3 h3
                rw [← unhide HGT] at h3
                obtain ⟨L, l, rfl, i3, h4, b4⟩ := out_endP (unhide HI1) (by decide) h3
                have HI3 := hide h4
                have HB3 := hide ((unhide HB1).trans b4)
                have HOW := hide i3.own
                have HKY := hide i3.key
                have HFB : Hid (∀ f ∈ L, Own w3 f.v f.body) := hide (fun f hf => own_base (i3.bod f hf))
                obtain ⟨al, cl, hal⟩ := own_one i3.own
                subst hal
                have hS3 := And.intro (show w3.cell? ⟨gp, 1, none⟩ = some (.pointer (some ⟨gi, 0, none⟩)) by rw [← unhide HGT]; exact (unhide HI3).row.cell 1) (show w3.cell? ⟨gp, 3, none⟩ = some uw by rw [← unhide HUW]; exact (unhide HI3).row.cell 3)
                have HL4 : Hid (L.length ≤ 4) := hide (by have := congrArg List.length (unhide HKY); rw [List.length_map] at this; have := outs_len4 (T.s 1); omega)
                clear h3 i3 h4 b4 HI1 HB1 hHeld
                go_wp2_with fail
                refine hK.out _ _ (fun _ => hS3) ?_
                clear hK K
                try simp only [Act.put, List.setIfInBounds_toArray, List.set_cons_zero, List.set_cons_succ]
                refine wpAnyT_one (i := 15) (o := { dst := some 56, op := Op.call { callee := Callee.builtin Builtin.append, args := #[Operand.tmp 48, Operand.tmp 55], argTypes := #[48, 48] }, type := 48, pos := "law.go:211", after := #[{ on := 7, ground := Ground.data }, { on := 14, ground := Ground.data }, { on := 14, ground := Ground.chain }], guard := none }) (by kernel_rfl) rfl (fun K hK => ?_)
                refine wp_app_src (Operand.tmp 48) (Operand.tmp 55) 48 34 _ 4 48 Try.underlying48 infoFr (by simp [Value.cells]) (by decide) rfl w.heap.size uw (T.F 1).length (fcs (T.F 1)) rfl (by rw [← unhide HUW]; exact (unhide HI3).way 1 (by decide)) al L.length cl (fcs L) rfl (unhide HOW).1 (fun e => by have := unhide HOW; rw [e] at this; exact own_none this) (own_news (unhide HOW)) (fcs_one (fun f hf => (unhide HFB f hf).one)) (by have := (unhide HG).fl 1 (by decide); have := unhide HL4; unfold maxLen; omega) (by have := (unhide HG).fl 1 (by decide); have := unhide HL4; omega) (unhide HI3).low (fun tv w6 hv6 ho6 hk6 => ?_)
                obtain ⟨at6, ct6, htv⟩ := own_one hv6
                subst htv
                have ho6b : Only (fun k => (T.W 1).ownBlock = some k) w3 w6 := by rw [unhide HUW]; exact ho6
                have HI6 := hide ((unhide HI3).setW 1 (by decide) (x := T.F 1 ++ L) ho6b (by rw [List.length_append, fcs_app]; exact hv6) (by rw [← unhide HUW] at hk6; exact hk6) (fun f hf => ?_))
                rotate_left
                · rcases List.mem_append.1 hf with hf | hf
                  · exact own_only ((unhide HI3).fb 1 (by decide) f hf) ho6b (avoid_own ((unhide HI3).way 1 (by decide)) (by decide) _ _ _ _ _ ((unhide HI3).fb 1 (by decide) f hf))
                  · exact own_only (unhide HFB f hf) ho6b (avoid_own ((unhide HI3).way 1 (by decide)) (by decide) _ _ _ _ _ (unhide HFB f hf))
                have HB6 := hide ((unhide HB3).trans (ho6b.below (unhide HI3).low (fun k hk => (((unhide HI3).way 1 (by decide)).lt k hk).1)))
                have hr6 : RowAt w6 gp 65 _ := (unhide HI3).row.only ho6b (fun e => tag_ne ((unhide HI3).way 1 (by decide)) (unhide HI3).row (by decide) e)
                have hS6 := And.intro (show w6.cell? ⟨gp, 1, none⟩ = some (.pointer (some ⟨gi, 0, none⟩)) by rw [← unhide HGT]; exact hr6.cell 1) (show w6.cell? ⟨gp, 3, none⟩ = some uw by rw [← unhide HUW]; exact hr6.cell 3)
                have HF6 : Hid (w6.frozen? ⟨gp, 3, none⟩ = false) := hide (hr6.frozen 3)
                have HGBP := hide (unhide HI3).gB
                have HSZ6 := hide (Nat.le_trans (unhide HI3).low ho6.size)
                clear hv6 ho6 ho6b hk6 HI3 HB3 HOW HFB hr6 hS3
                refine hK.out _ _ (fun _ => hS6) ?_
                clear hK K
                try simp only [Act.put, List.setIfInBounds_toArray, List.set_cons_zero, List.set_cons_succ]
                refine wpAnyT_pure (i := 18) (oi := { dst := some 59, op := Op.indexAddr 62 (Operand.tmp 58) (Operand.tmp 42), type := 0, pos := "law.go:211", after := #[{ on := 17, ground := Ground.data }, { on := 1, ground := Ground.data }, { on := 0, ground := Ground.phase }, { on := 1, ground := Ground.phase }, { on := 2, ground := Ground.phase }, { on := 3, ground := Ground.phase }, { on := 4, ground := Ground.phase }, { on := 5, ground := Ground.phase }, { on := 6, ground := Ground.phase }, { on := 7, ground := Ground.phase }, { on := 8, ground := Ground.phase }, { on := 9, ground := Ground.phase }, { on := 10, ground := Ground.phase }, { on := 11, ground := Ground.phase }, { on := 12, ground := Ground.phase }, { on := 13, ground := Ground.phase }, { on := 14, ground := Ground.phase }, { on := 15, ground := Ground.phase }], guard := none }) (v := .pointer (some ⟨gp, 3, none⟩)) rfl (by kernel_rfl) (by kernel_rfl) (by kernel_rfl) rfl (fun _ _ _ h => h) (Or.inl ⟨by rfl, ?_⟩) ?_
                · intro w hSw
                  first
                    | rfl
                    | (go_simp; done)
                try simp only [Act.put, List.setIfInBounds_toArray, List.set_cons_zero, List.set_cons_succ]
                have f6 := unhide HF6
                have s6 := hS6.2
                refine wpAnyT_one (i := 19) (o := { dst := none, op := Op.store 48 (Operand.tmp 59) (Operand.tmp 56), type := 0, pos := "law.go:211", after := #[{ on := 18, ground := Ground.data }, { on := 15, ground := Ground.data }, { on := 15, ground := Ground.chain }, { on := 0, ground := Ground.phase }, { on := 1, ground := Ground.phase }, { on := 2, ground := Ground.phase }, { on := 3, ground := Ground.phase }, { on := 4, ground := Ground.phase }, { on := 5, ground := Ground.phase }, { on := 6, ground := Ground.phase }, { on := 7, ground := Ground.phase }, { on := 8, ground := Ground.phase }, { on := 9, ground := Ground.phase }, { on := 10, ground := Ground.phase }, { on := 11, ground := Ground.phase }, { on := 12, ground := Ground.phase }, { on := 13, ground := Ground.phase }, { on := 14, ground := Ground.phase }, { on := 15, ground := Ground.phase }], guard := none }) (by kernel_rfl) rfl (fun K hK => ?_)
                go_simp
                refine hK.out _ _ (fun h => by cases h) ?_
                clear hK K
                try simp only [Act.put, List.setIfInBounds_toArray, List.set_cons_zero, List.set_cons_succ]
                refine wpAnyT_done (by kernel_rfl) ?_ _
                have o7 : Only (· = gp) w6 (w6.setCell ⟨gp, 3, none⟩ (.slice at6 ((T.F 1).length + L.length) ct6)) := Only.set (p := (· = gp)) (Only.refl _ _) gp 3 _ rfl
                have HE := hide (And.intro (LA.next (unhide HLA) (i := 1) (by decide) (.slice at6 ((T.F 1).length + L.length) ct6) (unhide HT) (unhide HKY)) (And.intro (unhide HI6) ((unhide HB6).trans (o7.below (unhide HSZ6) (fun k hk => by rw [hk]; exact unhide HGBP)))))
                clear o7
                clear HI6 HB6 HLA HT f6 s6 hS6 HF6
                go_wp2_with fail
                go_roundw
                case rel => exact ⟨1 + 1, N1 + 2, _, by omega, by simp, HE⟩
                case measure => simp [intOf]
              · try simp only [Int.cast_ofNat_Int]
                have HQA : Hid (TA P0 R 0 ∧ TA P0 R 1 ∧ Cnt N1 (1800 + 12 * r + 12) R) := hide ⟨(unhide HA).1.a 0 (by decide), (unhide HA).1.a 1 (by decide), (unhide HA).1.cnt⟩
                obtain ⟨Q2, hQ2⟩ : ∃ z, z = R := ⟨_, rfl⟩
                rw [← hQ2] at HQA HA
                clear hQ2
                go_wp2_with fail
                go_loopw [61] (fun i wr => ∃ (k N2 : Nat) (R2 : PS), k ≤ 2 ∧ i = .int .i64 (k : Int) ∧ Hid (LB k N2 (1800 + 12 * r + 12) Q2 R2 ∧ Pair wr w.heap.size gp R2 ∧ Below w.heap.size w wr)) (fun i _ => (2 - intOf i).toNat)
                case atStart => exact ⟨0, N1, Q2, by omega, by simp, hide ⟨⟨(unhide HQA).2.2, fun i hi => (by omega), fun i _ _ => ⟨rfl, rfl⟩⟩, (unhide HA).2⟩⟩
                case round =>
                  clear HA
                  obtain ⟨kb, N2, R2, hkb, rfl, HC⟩ := hrel
                  obtain rfl | rfl | rfl : kb = 0 ∨ kb = 1 ∨ kb = 2 := by omega
                  · try simp only [Int.cast_ofNat_Int]
                    obtain ⟨aw, cw, huw⟩ := own_one ((unhide HC).2.1.way 0 (by decide))
                    have HUW := hide huw
                    have z2 : wr.cell? ⟨gp, 2, none⟩ = some (.slice aw (R2.F 0).length cw) := by rw [← huw]; exact (unhide HC).2.1.row.cell 2
                    obtain ⟨nf, hnf⟩ : ∃ z, (R2.F 0).length = z := ⟨_, rfl⟩
                    have HNF := hide hnf
                    rw [hnf] at HUW z2
                    have hM9 : N2 ≤ 30000 ∧ nf ≤ 30000 := by have := (unhide HC).1.cnt.cnt; have := hnf; omega
                    clear huw hnf
                    go_wp2_with fail
                    clear z2
                    go_loopw [71] (fun i wr => ∃ (m : Nat) (S : PS), m ≤ nf ∧ i = .int .i64 (m : Int) ∧ Hid (Coming 0 m (N2 + m) (1800 + 12 * r + 12) R2 S ∧ Pair wr w.heap.size gp S ∧ Below w.heap.size w wr)) (fun i _ => nf - (intOf i).toNat)
                    case atStart => exact ⟨0, R2, by omega, rfl, hide ⟨(unhide HC).1.cnt.coming 0, (unhide HC).2⟩⟩
                    case round =>
                      have HLB := hide (unhide HC).1
                      clear HC
                      obtain ⟨m, S, hm, rfl, HS⟩ := hrel
                      by_cases g9 : m < nf
                      · have i1 : (m : Int) < (nf : Int) := by omega
                        have i0 : (0 : Int) ≤ (m : Int) := by omega
                        obtain ⟨f, hf⟩ : ∃ f, (R2.F 0)[m]? = some f := ⟨_, List.getElem?_eq_getElem (by rw [unhide HNF]; exact g9)⟩
                        have HF := hide hf
                        have hfS : (S.F 0)[m]? = some f := by rw [(unhide HS).1.F]; exact hf
                        have hway := (unhide HS).2.1.way 0 (by decide)
                        rw [(unhide HS).1.W, (unhide HS).1.F, unhide HUW] at hway
                        obtain ⟨gq, rfl, -, -, -, -, hx⟩ := fcell hway (by rw [unhide HNF]; omega)
                        have HG := hide (unhide HS).1.ordr.good
                        have HFOK := hide ((unhide HG).fr 0 (by decide) f (List.mem_of_getElem? hfS))
                        obtain ⟨af, cf, haf⟩ := own_one ((unhide HS).2.1.fb 0 (by decide) f (List.mem_of_getElem? hfS))
                        have q0 : wr.cell? ⟨gq, m * 4, none⟩ = some (.int .i64 f.conn) := hx m f hf 0 (by omega)
                        have q1 : wr.cell? ⟨gq, m * 4 + 1, none⟩ = some (.int .i64 f.seq) := hx m f hf 1 (by omega)
                        have q2 : wr.cell? ⟨gq, m * 4 + 2, none⟩ = some (.int .i64 f.ack) := hx m f hf 2 (by omega)
                        have q3 : wr.cell? ⟨gq, m * 4 + 3, none⟩ = some (.slice af f.body.length cf) := by rw [← haf]; exact hx m f hf 3 (by omega)
                        have HVF : Hid (Vis wr w.heap.size (.slice af f.body.length cf) f.body) := hide (by rw [← haf]; have h9 := (unhide HS).2.1.fb 0 (by decide) f (List.mem_of_getElem? hfS); exact ⟨Own.byt h9, .inr (.inr h9)⟩)
                        have b1 : Below wr.heap.size wr (wr.alloc (.cells #[.int .i64 f.conn, .int .i64 f.seq, .int .i64 f.ack, .slice af f.body.length cf] 34)) := (Below.refl _ _).alloc (Nat.le_refl _) _
                        have HP := hide ((unhide HS).2.1.call b1)
                        have HV := hide ((unhide HVF).call b1)
                        have HBB := hide ((unhide HS).2.2.trans (b1.mono (unhide HS).2.2.size))
                        have HCM := hide (unhide HS).1
                        clear hx hway hf hfS haf HVF HS
                        go_wp2_with fail
                        obtain ⟨w4, hw4⟩ : ∃ z, wr.alloc (.cells #[.int .i64 f.conn, .int .i64 f.seq, .int .i64 f.ack, .slice af f.body.length cf] 34) = z := ⟨_, rfl⟩
                        rw [hw4] at HP HV HBB ⊢
                        clear hw4 b1 q0 q1 q2 q3
                        refine Calls.mono (came1_ok w.heap.size gp S f.conn f.seq f.ack f.body _ w4 (unhide HP) (((unhide HG).inv 1 (by decide)).ok (by decide) (by omega)) ((unhide HG).inv 1 (by decide)).eok (unhide HV) (by have := (unhide HFOK).len; omega) (by have := (unhide HFOK).seq.2; omega) (by have := ((unhide HG).inv 1 (by decide)).el; omega) (unhide HG).ok ((unhide HFOK).takeE ((unhide HG).inv 1 (by decide))) (by have := (unhide HG).len 3 (by decide); omega) (fun v => by have := takeO_len ((unhide HG).inv 1 (by decide)) f.conn f.seq f.ack f.body v; omega)) ?_
                        rintro r8 w8 ⟨rfl, v8, vq8, tv8, h8, b8⟩
                        have HE := hide (And.intro ((unhide HCM).next (by decide) (unhide HF) v8 vq8 tv8) (And.intro h8 ((unhide HBB).trans b8)))
                        clear h8 b8 HP HV HBB HCM HG HFOK HF
                        go_wp2_with fail
                        go_roundw
                        case rel => exact ⟨m + 1, _, by omega, by go_num, HE⟩
                        case measure => simp [intOf]; omega
                      · have i1 : ¬ (m : Int) < (nf : Int) := by omega
                        obtain rfl : m = nf := by omega
                        have hn := (unhide HS).2.1.nil (i := 0) (by decide)
                        have HE : Hid (LB (0 + 1) (N2 + m) (1800 + 12 * r + 12) Q2 (P3 S 0 (.slice none 0 0) []) ∧ Pair (wr.setCell ⟨gp, 2, none⟩ (.slice none 0 0)) w.heap.size gp (P3 S 0 (.slice none 0 0) []) ∧ Below w.heap.size w (wr.setCell ⟨gp, 2, none⟩ (.slice none 0 0))) := hide ⟨(unhide HLB).next (by decide) (unhide HS).1 (unhide HNF).symm, hn.1, (unhide HS).2.2.trans hn.2⟩
                        have s2 : wr.cell? ⟨gp, 2, none⟩ = some (S.W 0) := (unhide HS).2.1.row.cell 2
                        have f2 : wr.frozen? ⟨gp, 2, none⟩ = false := (unhide HS).2.1.row.frozen 2
                        clear hn HS HLB
                        go_wp2_with fail
                        go_roundw
                        case rel => exact ⟨0 + 1, N2 + m, _, by omega, by simp, HE⟩
                        case measure => simp [intOf]
                  · try simp only [Int.cast_ofNat_Int]
                    obtain ⟨aw, cw, huw⟩ := own_one ((unhide HC).2.1.way 1 (by decide))
                    have HUW := hide huw
                    have z2 : wr.cell? ⟨gp, 3, none⟩ = some (.slice aw (R2.F 1).length cw) := by rw [← huw]; exact (unhide HC).2.1.row.cell 3
                    obtain ⟨nf, hnf⟩ : ∃ z, (R2.F 1).length = z := ⟨_, rfl⟩
                    have HNF := hide hnf
                    rw [hnf] at HUW z2
                    have hM9 : N2 ≤ 30000 ∧ nf ≤ 30000 := by have := (unhide HC).1.cnt.cnt; have := hnf; omega
                    clear huw hnf
                    go_wp2_with fail
                    clear z2
                    go_loopw [71] (fun i wr => ∃ (m : Nat) (S : PS), m ≤ nf ∧ i = .int .i64 (m : Int) ∧ Hid (Coming 1 m (N2 + m) (1800 + 12 * r + 12) R2 S ∧ Pair wr w.heap.size gp S ∧ Below w.heap.size w wr)) (fun i _ => nf - (intOf i).toNat)
                    case atStart => exact ⟨0, R2, by omega, rfl, hide ⟨(unhide HC).1.cnt.coming 1, (unhide HC).2⟩⟩
                    case round =>
                      have HLB := hide (unhide HC).1
                      clear HC
                      obtain ⟨m, S, hm, rfl, HS⟩ := hrel
                      by_cases g9 : m < nf
                      · have i1 : (m : Int) < (nf : Int) := by omega
                        have i0 : (0 : Int) ≤ (m : Int) := by omega
                        obtain ⟨f, hf⟩ : ∃ f, (R2.F 1)[m]? = some f := ⟨_, List.getElem?_eq_getElem (by rw [unhide HNF]; exact g9)⟩
                        have HF := hide hf
                        have hfS : (S.F 1)[m]? = some f := by rw [(unhide HS).1.F]; exact hf
                        have hway := (unhide HS).2.1.way 1 (by decide)
                        rw [(unhide HS).1.W, (unhide HS).1.F, unhide HUW] at hway
                        obtain ⟨gq, rfl, -, -, -, -, hx⟩ := fcell hway (by rw [unhide HNF]; omega)
                        have HG := hide (unhide HS).1.ordr.good
                        have HFOK := hide ((unhide HG).fr 1 (by decide) f (List.mem_of_getElem? hfS))
                        obtain ⟨af, cf, haf⟩ := own_one ((unhide HS).2.1.fb 1 (by decide) f (List.mem_of_getElem? hfS))
                        have q0 : wr.cell? ⟨gq, m * 4, none⟩ = some (.int .i64 f.conn) := hx m f hf 0 (by omega)
                        have q1 : wr.cell? ⟨gq, m * 4 + 1, none⟩ = some (.int .i64 f.seq) := hx m f hf 1 (by omega)
                        have q2 : wr.cell? ⟨gq, m * 4 + 2, none⟩ = some (.int .i64 f.ack) := hx m f hf 2 (by omega)
                        have q3 : wr.cell? ⟨gq, m * 4 + 3, none⟩ = some (.slice af f.body.length cf) := by rw [← haf]; exact hx m f hf 3 (by omega)
                        have HVF : Hid (Vis wr w.heap.size (.slice af f.body.length cf) f.body) := hide (by rw [← haf]; have h9 := (unhide HS).2.1.fb 1 (by decide) f (List.mem_of_getElem? hfS); exact ⟨Own.byt h9, .inr (.inr h9)⟩)
                        have b1 : Below wr.heap.size wr (wr.alloc (.cells #[.int .i64 f.conn, .int .i64 f.seq, .int .i64 f.ack, .slice af f.body.length cf] 34)) := (Below.refl _ _).alloc (Nat.le_refl _) _
                        have HP := hide ((unhide HS).2.1.call b1)
                        have HV := hide ((unhide HVF).call b1)
                        have HBB := hide ((unhide HS).2.2.trans (b1.mono (unhide HS).2.2.size))
                        have HCM := hide (unhide HS).1
                        clear hx hway hf hfS haf HVF HS
                        go_wp2_with fail
                        obtain ⟨w4, hw4⟩ : ∃ z, wr.alloc (.cells #[.int .i64 f.conn, .int .i64 f.seq, .int .i64 f.ack, .slice af f.body.length cf] 34) = z := ⟨_, rfl⟩
                        rw [hw4] at HP HV HBB ⊢
                        clear hw4 b1 q0 q1 q2 q3
                        refine Calls.mono (came0_ok w.heap.size gp S f.conn f.seq f.ack f.body _ w4 (unhide HP) (((unhide HG).inv 0 (by decide)).ok (by decide) (by omega)) ((unhide HG).inv 0 (by decide)).eok (unhide HV) (by have := (unhide HFOK).len; omega) (by have := (unhide HFOK).seq.2; omega) (by have := ((unhide HG).inv 0 (by decide)).el; omega) (unhide HG).ok ((unhide HFOK).takeE ((unhide HG).inv 0 (by decide))) (by have := (unhide HG).len 2 (by decide); omega) (fun v => by have := takeO_len ((unhide HG).inv 0 (by decide)) f.conn f.seq f.ack f.body v; omega)) ?_
                        rintro r8 w8 ⟨rfl, v8, vq8, tv8, h8, b8⟩
                        have HE := hide (And.intro ((unhide HCM).next (by decide) (unhide HF) v8 vq8 tv8) (And.intro h8 ((unhide HBB).trans b8)))
                        clear h8 b8 HP HV HBB HCM HG HFOK HF
                        go_wp2_with fail
                        go_roundw
                        case rel => exact ⟨m + 1, _, by omega, by go_num, HE⟩
                        case measure => simp [intOf]; omega
                      · have i1 : ¬ (m : Int) < (nf : Int) := by omega
                        obtain rfl : m = nf := by omega
                        have hn := (unhide HS).2.1.nil (i := 1) (by decide)
                        have HE : Hid (LB (1 + 1) (N2 + m) (1800 + 12 * r + 12) Q2 (P3 S 1 (.slice none 0 0) []) ∧ Pair (wr.setCell ⟨gp, 3, none⟩ (.slice none 0 0)) w.heap.size gp (P3 S 1 (.slice none 0 0) []) ∧ Below w.heap.size w (wr.setCell ⟨gp, 3, none⟩ (.slice none 0 0))) := hide ⟨(unhide HLB).next (by decide) (unhide HS).1 (unhide HNF).symm, hn.1, (unhide HS).2.2.trans hn.2⟩
                        have s2 : wr.cell? ⟨gp, 3, none⟩ = some (S.W 1) := (unhide HS).2.1.row.cell 3
                        have f2 : wr.frozen? ⟨gp, 3, none⟩ = false := (unhide HS).2.1.row.frozen 3
                        clear hn HS HLB
                        go_wp2_with fail
                        go_roundw
                        case rel => exact ⟨1 + 1, N2 + m, _, by omega, by simp, HE⟩
                        case measure => simp [intOf]
                  · try simp only [Int.cast_ofNat_Int]
                    have HE := hide (And.intro ((unhide HRR).next (unhide HQA).1 (unhide HQA).2.1 (unhide HQA).2.2 ((unhide HC).1.b 0 (by decide)) ((unhide HC).1.b 1 (by decide)) (unhide HC).1.cnt) (unhide HC).2)
                    clear HC HQA HRR
                    go_wp2_with fail
                    go_roundw
                    case rel => exact ⟨r + 1, N2, R2, by omega, by go_num, HE⟩
                    case measure => simp [intOf]; omega
          · have j1 : ¬ (r : Int) < 60 := by omega
            obtain rfl : r = 60 := by omega
            have hend := (unhide HR).1.end_ (unhide HA0)
            obtain ⟨e3, e2, e4, e5⟩ := hend
            have hN9 : N3 ≤ 100000 := by have := (unhide HR).1.cnt.cnt; omega
            obtain ⟨g0', hg0⟩ : ∃ z, P0.g 0 = z := ⟨_, rfl⟩
            obtain ⟨g1', hg1⟩ : ∃ z, P0.g 1 = z := ⟨_, rfl⟩
            obtain ⟨n0, hn0⟩ : ∃ z, (P0.X 0).length = z := ⟨_, rfl⟩
            obtain ⟨n1, hn1⟩ : ∃ z, (P0.X 1).length = z := ⟨_, rfl⟩
            rw [hn0] at e3
            rw [hn1] at e2
            obtain ⟨a4, c4, h4⟩ := own_one ((unhide HR).2.1.rows 0 (by decide))
            obtain ⟨a5, c5, h5⟩ := own_one ((unhide HR).2.1.rows 1 (by decide))
            obtain ⟨a6, c6, h6⟩ := own_one ((unhide HR).2.1.rows 2 (by decide))
            obtain ⟨a7, c7, h7⟩ := own_one ((unhide HR).2.1.rows 3 (by decide))
            obtain ⟨aq0, cq0, hq0⟩ := own_one ((unhide HR).2.1.ch 0 (by decide)).own
            obtain ⟨aq1, cq1, hq1⟩ := own_one ((unhide HR).2.1.ch 1 (by decide)).own
            rw [hn0] at h4
            rw [hn1] at h5
            rw [e2] at h6
            rw [e3] at h7
            rw [e4] at hq0
            rw [e5] at hq1
            have HSS : Hid (∀ W, Pair W w.heap.size gp P0 → W.cell? ⟨gp, 0, none⟩ = some (.pointer (some ⟨g0', 0, none⟩)) ∧ W.cell? ⟨gp, 1, none⟩ = some (.pointer (some ⟨g1', 0, none⟩)) ∧ W.cell? ⟨gp, 4, none⟩ = some (.slice a4 n0 c4) ∧ W.cell? ⟨gp, 5, none⟩ = some (.slice a5 n1 c5) ∧ W.cell? ⟨gp, 6, none⟩ = some (.slice a6 n1 c6) ∧ W.cell? ⟨gp, 7, none⟩ = some (.slice a7 n0 c7)) := hide (fun W hW => by
              rw [← hg0, ← hg1, ← h4, ← h5, ← h6, ← h7]
              exact ⟨hW.row.cell 0, hW.row.cell 1, hW.row.cell 4, hW.row.cell 5, hW.row.cell 6, hW.row.cell 7⟩)
            have HW0 : Hid (∀ W, Pair W w.heap.size gp P0 → W.cell? ⟨g0', 5, none⟩ = some (.int .i64 1) ∧ W.cell? ⟨g0', 1, none⟩ = some (.slice aq0 0 cq0)) := hide (fun W hW => by
              have c := (hW.ch 0 (by decide)).row
              rw [((unhide HR).1.cnt.ordr.good.inv 0 (by decide)).conn, hq0, hg0] at c
              exact ⟨c.cell 5, c.cell 1⟩)
            have HW1 : Hid (∀ W, Pair W w.heap.size gp P0 → W.cell? ⟨g1', 5, none⟩ = some (.int .i64 1) ∧ W.cell? ⟨g1', 1, none⟩ = some (.slice aq1 0 cq1)) := hide (fun W hW => by
              have c := (hW.ch 1 (by decide)).row
              rw [((unhide HR).1.cnt.ordr.good.inv 1 (by decide)).conn, hq1, hg1] at c
              exact ⟨c.cell 5, c.cell 1⟩)
            have HO := hide (unhide HR).1.cnt.ordr
            have HI := hide (unhide HR).2.1
            have HB := hide (unhide HR).2.2
            clear e2 e3 e4 e5 hg0 hg1 hn0 hn1 h4 h5 h6 h7 hq0 hq1 HR HA0
            go_wp2_with fail
            refine wp_region_T (S := fun W => W.cell? ⟨gp, 0, none⟩ = some (.pointer (some ⟨g0', 0, none⟩)) ∧ W.cell? ⟨gp, 1, none⟩ = some (.pointer (some ⟨g1', 0, none⟩)) ∧ W.cell? ⟨gp, 4, none⟩ = some (.slice a4 n0 c4) ∧ W.cell? ⟨gp, 5, none⟩ = some (.slice a5 n1 c5) ∧ W.cell? ⟨gp, 6, none⟩ = some (.slice a6 n1 c6) ∧ W.cell? ⟨gp, 7, none⟩ = some (.slice a7 n0 c7)) (fun i => decide (i < 53)) (by kernel_rfl) (by have h9 := unhide HSS wr (unhide HI); exact h9) (fun hHeld => ?_)
            have bd : Below wr.heap.size wr wr.drew := Below.drew (Below.refl _ _)
            have HI1 := hide ((unhide HI).call bd)
            have HB1 := hide ((unhide HB).trans (bd.mono (unhide HI).low))
            obtain ⟨w1, hw1⟩ : ∃ z, wr.drew = z := ⟨_, rfl⟩
            rw [hw1] at HI1 HB1 hHeld ⊢
            clear hw1 bd HI HB
            refine wpAnyT_take (i := 0) (oi := { dst := some 88, op := Op.move (Operand.tmp 3), type := 59, pos := "law.go:220", after := #[], guard := none }) (v := .pointer (some ⟨gp, 0, none⟩)) rfl (by kernel_rfl) (by kernel_rfl) (by kernel_rfl) (by kernel_rfl) (fun _ _ _ h => h) (Or.inl ⟨by rfl, ?_⟩) hHeld ?_
            · intro w hSw
              obtain ⟨z0, z1, z4, z5, z6, z7⟩ := hSw
              first
                | rfl
                | (go_simp; done)
            try simp only [Act.put, List.setIfInBounds_toArray, List.set_cons_zero, List.set_cons_succ]
            refine wpAnyT_one (i := 1) (o := { dst := some 89, op := Op.call { callee := Callee.value (Operand.func 33), args := #[Operand.tmp 88], argTypes := #[59] }, type := 4, pos := "law.go:220", after := #[{ on := 0, ground := Ground.data }], guard := none }) (by kernel_rfl) rfl (fun K hK => ?_)
            go_simp
            refine Calls.mono (right_big w.heap.size gp N3 P0 w1 (unhide HI1) (unhide HO) (by omega)) ?_
            rintro r9 w2 ⟨rfl, h6, b6⟩
            have HI2 := hide h6
            have HB2 := hide ((unhide HB1).trans (b6.mono (unhide HB1).size))
            have hS2 := unhide HSS _ h6
            clear h6 b6 HI1 HB1 hHeld
            go_wp2_with fail
            refine hK.out _ _ (fun _ => hS2) ?_
            clear hK K
            try simp only [Act.put, List.setIfInBounds_toArray, List.set_cons_zero, List.set_cons_succ]
            refine wpAnyT_take (i := 2) (oi := { dst := some 90, op := Op.move (Operand.tmp 89), type := 4, pos := "law.go:220", after := #[{ on := 1, ground := Ground.data }, { on := 1, ground := Ground.chain }], guard := none }) (v := .bool true) rfl (by kernel_rfl) (by kernel_rfl) (by kernel_rfl) (by kernel_rfl) (fun _ _ _ h => h) (Or.inl ⟨by rfl, ?_⟩) hS2 ?_
            · intro w hSw
              obtain ⟨z0, z1, z4, z5, z6, z7⟩ := hSw
              first
                | rfl
                | (go_simp; done)
            try simp only [Act.put, List.setIfInBounds_toArray, List.set_cons_zero, List.set_cons_succ]
            refine wpAnyT_take (i := 3) (oi := { dst := some 91, op := Op.move (Operand.tmp 3), type := 59, pos := "law.go:220", after := #[{ on := 2, ground := Ground.guard }], guard := some (2, true) }) (v := .pointer (some ⟨gp, 0, none⟩)) rfl (by kernel_rfl) (by kernel_rfl) (by kernel_rfl) (by kernel_rfl) (fun _ _ _ h => h) (Or.inl ⟨by rfl, ?_⟩) hS2 ?_
            · intro w hSw
              obtain ⟨z0, z1, z4, z5, z6, z7⟩ := hSw
              first
                | rfl
                | (go_simp; done)
            try simp only [Act.put, List.setIfInBounds_toArray, List.set_cons_zero, List.set_cons_succ]
            refine wpAnyT_take (i := 4) (oi := { dst := some 92, op := Op.nilCheck (Operand.tmp 91), type := 0, pos := "law.go:220", after := #[{ on := 3, ground := Ground.data }, { on := 2, ground := Ground.guard }], guard := some (2, true) }) (v := .pointer (some ⟨gp, 0, none⟩)) rfl (by kernel_rfl) (by kernel_rfl) (by kernel_rfl) (by kernel_rfl) (fun _ _ _ h => h) (Or.inl ⟨by rfl, ?_⟩) hS2 ?_
            · intro w hSw
              obtain ⟨z0, z1, z4, z5, z6, z7⟩ := hSw
              first
                | rfl
                | (go_simp; done)
            try simp only [Act.put, List.setIfInBounds_toArray, List.set_cons_zero, List.set_cons_succ]
            refine wpAnyT_take (i := 5) (oi := { dst := some 93, op := Op.fieldAddr 65 (Operand.tmp 92) 3, type := 0, pos := "law.go:220", after := #[{ on := 4, ground := Ground.data }, { on := 2, ground := Ground.guard }], guard := some (2, true) }) (v := .pointer (some ⟨gp, 6, none⟩)) rfl (by kernel_rfl) (by kernel_rfl) (by kernel_rfl) (by kernel_rfl) (fun _ _ _ h => h) (Or.inl ⟨by rfl, ?_⟩) hS2 ?_
            · intro w hSw
              obtain ⟨z0, z1, z4, z5, z6, z7⟩ := hSw
              first
                | rfl
                | (go_simp; done)
            try simp only [Act.put, List.setIfInBounds_toArray, List.set_cons_zero, List.set_cons_succ]
            refine wpAnyT_take (i := 6) (oi := { dst := some 94, op := Op.indexAddr 63 (Operand.tmp 93) (Operand.const (Value.int IntKind.i64 0)), type := 0, pos := "law.go:220", after := #[{ on := 5, ground := Ground.data }, { on := 2, ground := Ground.guard }], guard := some (2, true) }) (v := .pointer (some ⟨gp, 6, none⟩)) rfl (by kernel_rfl) (by kernel_rfl) (by kernel_rfl) (by kernel_rfl) (fun _ _ _ h => h) (Or.inl ⟨by rfl, ?_⟩) hS2 ?_
            · intro w hSw
              obtain ⟨z0, z1, z4, z5, z6, z7⟩ := hSw
              first
                | rfl
                | (go_simp; done)
            try simp only [Act.put, List.setIfInBounds_toArray, List.set_cons_zero, List.set_cons_succ]
            refine wpAnyT_take (i := 7) (oi := { dst := some 95, op := Op.load 40 (Operand.tmp 94), type := 40, pos := "law.go:220", after := #[{ on := 6, ground := Ground.data }, { on := 2, ground := Ground.guard }], guard := some (2, true) }) (v := .slice a6 n1 c6) rfl (by kernel_rfl) (by kernel_rfl) (by kernel_rfl) (by kernel_rfl) (fun _ _ _ h => h) (Or.inl ⟨by rfl, ?_⟩) hS2 ?_
            · intro w hSw
              obtain ⟨z0, z1, z4, z5, z6, z7⟩ := hSw
              first
                | rfl
                | (go_simp; done)
            try simp only [Act.put, List.setIfInBounds_toArray, List.set_cons_zero, List.set_cons_succ]
            refine wpAnyT_take (i := 8) (oi := { dst := some 96, op := Op.call { callee := Callee.builtin Builtin.len, args := #[Operand.tmp 95], argTypes := #[40] }, type := 3, pos := "law.go:220", after := #[{ on := 7, ground := Ground.data }, { on := 2, ground := Ground.guard }], guard := some (2, true) }) (v := .int .i64 (n1 : Int)) rfl (by kernel_rfl) (by kernel_rfl) (by kernel_rfl) (by kernel_rfl) (fun _ _ _ h => h) (Or.inl ⟨by rfl, ?_⟩) hS2 ?_
            · intro w hSw
              obtain ⟨z0, z1, z4, z5, z6, z7⟩ := hSw
              first
                | rfl
                | (go_simp; done)
            try simp only [Act.put, List.setIfInBounds_toArray, List.set_cons_zero, List.set_cons_succ]
            refine wpAnyT_take (i := 9) (oi := { dst := some 97, op := Op.move (Operand.tmp 3), type := 59, pos := "law.go:220", after := #[{ on := 2, ground := Ground.guard }], guard := some (2, true) }) (v := .pointer (some ⟨gp, 0, none⟩)) rfl (by kernel_rfl) (by kernel_rfl) (by kernel_rfl) (by kernel_rfl) (fun _ _ _ h => h) (Or.inl ⟨by rfl, ?_⟩) hS2 ?_
            · intro w hSw
              obtain ⟨z0, z1, z4, z5, z6, z7⟩ := hSw
              first
                | rfl
                | (go_simp; done)
            try simp only [Act.put, List.setIfInBounds_toArray, List.set_cons_zero, List.set_cons_succ]
            refine wpAnyT_take (i := 10) (oi := { dst := some 98, op := Op.nilCheck (Operand.tmp 97), type := 0, pos := "law.go:220", after := #[{ on := 9, ground := Ground.data }, { on := 2, ground := Ground.guard }], guard := some (2, true) }) (v := .pointer (some ⟨gp, 0, none⟩)) rfl (by kernel_rfl) (by kernel_rfl) (by kernel_rfl) (by kernel_rfl) (fun _ _ _ h => h) (Or.inl ⟨by rfl, ?_⟩) hS2 ?_
            · intro w hSw
              obtain ⟨z0, z1, z4, z5, z6, z7⟩ := hSw
              first
                | rfl
                | (go_simp; done)
            try simp only [Act.put, List.setIfInBounds_toArray, List.set_cons_zero, List.set_cons_succ]
            refine wpAnyT_take (i := 11) (oi := { dst := some 99, op := Op.fieldAddr 65 (Operand.tmp 98) 2, type := 0, pos := "law.go:220", after := #[{ on := 10, ground := Ground.data }, { on := 2, ground := Ground.guard }], guard := some (2, true) }) (v := .pointer (some ⟨gp, 4, none⟩)) rfl (by kernel_rfl) (by kernel_rfl) (by kernel_rfl) (by kernel_rfl) (fun _ _ _ h => h) (Or.inl ⟨by rfl, ?_⟩) hS2 ?_
            · intro w hSw
              obtain ⟨z0, z1, z4, z5, z6, z7⟩ := hSw
              first
                | rfl
                | (go_simp; done)
            try simp only [Act.put, List.setIfInBounds_toArray, List.set_cons_zero, List.set_cons_succ]
            refine wpAnyT_take (i := 12) (oi := { dst := some 100, op := Op.indexAddr 63 (Operand.tmp 99) (Operand.const (Value.int IntKind.i64 1)), type := 0, pos := "law.go:220", after := #[{ on := 11, ground := Ground.data }, { on := 2, ground := Ground.guard }], guard := some (2, true) }) (v := .pointer (some ⟨gp, 5, none⟩)) rfl (by kernel_rfl) (by kernel_rfl) (by kernel_rfl) (by kernel_rfl) (fun _ _ _ h => h) (Or.inl ⟨by rfl, ?_⟩) hS2 ?_
            · intro w hSw
              obtain ⟨z0, z1, z4, z5, z6, z7⟩ := hSw
              first
                | rfl
                | (go_simp; done)
            try simp only [Act.put, List.setIfInBounds_toArray, List.set_cons_zero, List.set_cons_succ]
            refine wpAnyT_take (i := 13) (oi := { dst := some 101, op := Op.load 40 (Operand.tmp 100), type := 40, pos := "law.go:220", after := #[{ on := 12, ground := Ground.data }, { on := 2, ground := Ground.guard }], guard := some (2, true) }) (v := .slice a5 n1 c5) rfl (by kernel_rfl) (by kernel_rfl) (by kernel_rfl) (by kernel_rfl) (fun _ _ _ h => h) (Or.inl ⟨by rfl, ?_⟩) hS2 ?_
            · intro w hSw
              obtain ⟨z0, z1, z4, z5, z6, z7⟩ := hSw
              first
                | rfl
                | (go_simp; done)
            try simp only [Act.put, List.setIfInBounds_toArray, List.set_cons_zero, List.set_cons_succ]
            refine wpAnyT_take (i := 14) (oi := { dst := some 102, op := Op.call { callee := Callee.builtin Builtin.len, args := #[Operand.tmp 101], argTypes := #[40] }, type := 3, pos := "law.go:220", after := #[{ on := 13, ground := Ground.data }, { on := 2, ground := Ground.guard }], guard := some (2, true) }) (v := .int .i64 (n1 : Int)) rfl (by kernel_rfl) (by kernel_rfl) (by kernel_rfl) (by kernel_rfl) (fun _ _ _ h => h) (Or.inl ⟨by rfl, ?_⟩) hS2 ?_
            · intro w hSw
              obtain ⟨z0, z1, z4, z5, z6, z7⟩ := hSw
              first
                | rfl
                | (go_simp; done)
            try simp only [Act.put, List.setIfInBounds_toArray, List.set_cons_zero, List.set_cons_succ]
            refine wpAnyT_take (i := 15) (oi := { dst := some 103, op := Op.binOp BinOp.eql 3 (Operand.tmp 96) (Operand.tmp 102) 3, type := 4, pos := "law.go:220", after := #[{ on := 8, ground := Ground.data }, { on := 14, ground := Ground.data }, { on := 2, ground := Ground.guard }], guard := some (2, true) }) (v := .bool true) rfl (by kernel_rfl) (by kernel_rfl) (by kernel_rfl) (by kernel_rfl) (fun _ _ _ h => h) (Or.inl ⟨by rfl, ?_⟩) hS2 ?_
            · intro w hSw
              obtain ⟨z0, z1, z4, z5, z6, z7⟩ := hSw
              first
                | rfl
                | (go_simp; done)
            try simp only [Act.put, List.setIfInBounds_toArray, List.set_cons_zero, List.set_cons_succ]
            refine wpAnyT_take (i := 16) (oi := { dst := some 104, op := Op.pick (Operand.tmp 90) (Operand.tmp 103) (Operand.const (Value.bool false)), type := 4, pos := "law.go:220", after := #[{ on := 2, ground := Ground.data }, { on := 15, ground := Ground.data }], guard := none }) (v := .bool true) rfl (by kernel_rfl) (by kernel_rfl) (by kernel_rfl) (by kernel_rfl) (fun _ _ _ h => h) (Or.inl ⟨by rfl, ?_⟩) hS2 ?_
            · intro w hSw
              obtain ⟨z0, z1, z4, z5, z6, z7⟩ := hSw
              first
                | rfl
                | (go_simp; done)
            try simp only [Act.put, List.setIfInBounds_toArray, List.set_cons_zero, List.set_cons_succ]
            refine wpAnyT_take (i := 17) (oi := { dst := some 105, op := Op.move (Operand.tmp 104), type := 4, pos := "law.go:220", after := #[{ on := 16, ground := Ground.data }, { on := 2, ground := Ground.chain }], guard := none }) (v := .bool true) rfl (by kernel_rfl) (by kernel_rfl) (by kernel_rfl) (by kernel_rfl) (fun _ _ _ h => h) (Or.inl ⟨by rfl, ?_⟩) hS2 ?_
            · intro w hSw
              obtain ⟨z0, z1, z4, z5, z6, z7⟩ := hSw
              first
                | rfl
                | (go_simp; done)
            try simp only [Act.put, List.setIfInBounds_toArray, List.set_cons_zero, List.set_cons_succ]
            refine wpAnyT_take (i := 18) (oi := { dst := some 106, op := Op.move (Operand.tmp 3), type := 59, pos := "law.go:220", after := #[{ on := 17, ground := Ground.guard }], guard := some (17, true) }) (v := .pointer (some ⟨gp, 0, none⟩)) rfl (by kernel_rfl) (by kernel_rfl) (by kernel_rfl) (by kernel_rfl) (fun _ _ _ h => h) (Or.inl ⟨by rfl, ?_⟩) hS2 ?_
            · intro w hSw
              obtain ⟨z0, z1, z4, z5, z6, z7⟩ := hSw
              first
                | rfl
                | (go_simp; done)
            try simp only [Act.put, List.setIfInBounds_toArray, List.set_cons_zero, List.set_cons_succ]
            refine wpAnyT_take (i := 19) (oi := { dst := some 107, op := Op.nilCheck (Operand.tmp 106), type := 0, pos := "law.go:220", after := #[{ on := 18, ground := Ground.data }, { on := 17, ground := Ground.guard }], guard := some (17, true) }) (v := .pointer (some ⟨gp, 0, none⟩)) rfl (by kernel_rfl) (by kernel_rfl) (by kernel_rfl) (by kernel_rfl) (fun _ _ _ h => h) (Or.inl ⟨by rfl, ?_⟩) hS2 ?_
            · intro w hSw
              obtain ⟨z0, z1, z4, z5, z6, z7⟩ := hSw
              first
                | rfl
                | (go_simp; done)
            try simp only [Act.put, List.setIfInBounds_toArray, List.set_cons_zero, List.set_cons_succ]
            refine wpAnyT_take (i := 20) (oi := { dst := some 108, op := Op.fieldAddr 65 (Operand.tmp 107) 3, type := 0, pos := "law.go:220", after := #[{ on := 19, ground := Ground.data }, { on := 17, ground := Ground.guard }], guard := some (17, true) }) (v := .pointer (some ⟨gp, 6, none⟩)) rfl (by kernel_rfl) (by kernel_rfl) (by kernel_rfl) (by kernel_rfl) (fun _ _ _ h => h) (Or.inl ⟨by rfl, ?_⟩) hS2 ?_
            · intro w hSw
              obtain ⟨z0, z1, z4, z5, z6, z7⟩ := hSw
              first
                | rfl
                | (go_simp; done)
            try simp only [Act.put, List.setIfInBounds_toArray, List.set_cons_zero, List.set_cons_succ]
            refine wpAnyT_take (i := 21) (oi := { dst := some 109, op := Op.indexAddr 63 (Operand.tmp 108) (Operand.const (Value.int IntKind.i64 1)), type := 0, pos := "law.go:220", after := #[{ on := 20, ground := Ground.data }, { on := 17, ground := Ground.guard }], guard := some (17, true) }) (v := .pointer (some ⟨gp, 7, none⟩)) rfl (by kernel_rfl) (by kernel_rfl) (by kernel_rfl) (by kernel_rfl) (fun _ _ _ h => h) (Or.inl ⟨by rfl, ?_⟩) hS2 ?_
            · intro w hSw
              obtain ⟨z0, z1, z4, z5, z6, z7⟩ := hSw
              first
                | rfl
                | (go_simp; done)
            try simp only [Act.put, List.setIfInBounds_toArray, List.set_cons_zero, List.set_cons_succ]
            refine wpAnyT_take (i := 22) (oi := { dst := some 110, op := Op.load 40 (Operand.tmp 109), type := 40, pos := "law.go:220", after := #[{ on := 21, ground := Ground.data }, { on := 17, ground := Ground.guard }], guard := some (17, true) }) (v := .slice a7 n0 c7) rfl (by kernel_rfl) (by kernel_rfl) (by kernel_rfl) (by kernel_rfl) (fun _ _ _ h => h) (Or.inl ⟨by rfl, ?_⟩) hS2 ?_
            · intro w hSw
              obtain ⟨z0, z1, z4, z5, z6, z7⟩ := hSw
              first
                | rfl
                | (go_simp; done)
            try simp only [Act.put, List.setIfInBounds_toArray, List.set_cons_zero, List.set_cons_succ]
            refine wpAnyT_take (i := 23) (oi := { dst := some 111, op := Op.call { callee := Callee.builtin Builtin.len, args := #[Operand.tmp 110], argTypes := #[40] }, type := 3, pos := "law.go:220", after := #[{ on := 22, ground := Ground.data }, { on := 17, ground := Ground.guard }], guard := some (17, true) }) (v := .int .i64 (n0 : Int)) rfl (by kernel_rfl) (by kernel_rfl) (by kernel_rfl) (by kernel_rfl) (fun _ _ _ h => h) (Or.inl ⟨by rfl, ?_⟩) hS2 ?_
            · intro w hSw
              obtain ⟨z0, z1, z4, z5, z6, z7⟩ := hSw
              first
                | rfl
                | (go_simp; done)
            try simp only [Act.put, List.setIfInBounds_toArray, List.set_cons_zero, List.set_cons_succ]
            refine wpAnyT_take (i := 24) (oi := { dst := some 112, op := Op.move (Operand.tmp 3), type := 59, pos := "law.go:220", after := #[{ on := 17, ground := Ground.guard }], guard := some (17, true) }) (v := .pointer (some ⟨gp, 0, none⟩)) rfl (by kernel_rfl) (by kernel_rfl) (by kernel_rfl) (by kernel_rfl) (fun _ _ _ h => h) (Or.inl ⟨by rfl, ?_⟩) hS2 ?_
            · intro w hSw
              obtain ⟨z0, z1, z4, z5, z6, z7⟩ := hSw
              first
                | rfl
                | (go_simp; done)
            try simp only [Act.put, List.setIfInBounds_toArray, List.set_cons_zero, List.set_cons_succ]
            refine wpAnyT_take (i := 25) (oi := { dst := some 113, op := Op.nilCheck (Operand.tmp 112), type := 0, pos := "law.go:220", after := #[{ on := 24, ground := Ground.data }, { on := 17, ground := Ground.guard }], guard := some (17, true) }) (v := .pointer (some ⟨gp, 0, none⟩)) rfl (by kernel_rfl) (by kernel_rfl) (by kernel_rfl) (by kernel_rfl) (fun _ _ _ h => h) (Or.inl ⟨by rfl, ?_⟩) hS2 ?_
            · intro w hSw
              obtain ⟨z0, z1, z4, z5, z6, z7⟩ := hSw
              first
                | rfl
                | (go_simp; done)
            try simp only [Act.put, List.setIfInBounds_toArray, List.set_cons_zero, List.set_cons_succ]
            refine wpAnyT_take (i := 26) (oi := { dst := some 114, op := Op.fieldAddr 65 (Operand.tmp 113) 2, type := 0, pos := "law.go:220", after := #[{ on := 25, ground := Ground.data }, { on := 17, ground := Ground.guard }], guard := some (17, true) }) (v := .pointer (some ⟨gp, 4, none⟩)) rfl (by kernel_rfl) (by kernel_rfl) (by kernel_rfl) (by kernel_rfl) (fun _ _ _ h => h) (Or.inl ⟨by rfl, ?_⟩) hS2 ?_
            · intro w hSw
              obtain ⟨z0, z1, z4, z5, z6, z7⟩ := hSw
              first
                | rfl
                | (go_simp; done)
            try simp only [Act.put, List.setIfInBounds_toArray, List.set_cons_zero, List.set_cons_succ]
            refine wpAnyT_take (i := 27) (oi := { dst := some 115, op := Op.indexAddr 63 (Operand.tmp 114) (Operand.const (Value.int IntKind.i64 0)), type := 0, pos := "law.go:220", after := #[{ on := 26, ground := Ground.data }, { on := 17, ground := Ground.guard }], guard := some (17, true) }) (v := .pointer (some ⟨gp, 4, none⟩)) rfl (by kernel_rfl) (by kernel_rfl) (by kernel_rfl) (by kernel_rfl) (fun _ _ _ h => h) (Or.inl ⟨by rfl, ?_⟩) hS2 ?_
            · intro w hSw
              obtain ⟨z0, z1, z4, z5, z6, z7⟩ := hSw
              first
                | rfl
                | (go_simp; done)
            try simp only [Act.put, List.setIfInBounds_toArray, List.set_cons_zero, List.set_cons_succ]
            refine wpAnyT_take (i := 28) (oi := { dst := some 116, op := Op.load 40 (Operand.tmp 115), type := 40, pos := "law.go:220", after := #[{ on := 27, ground := Ground.data }, { on := 17, ground := Ground.guard }], guard := some (17, true) }) (v := .slice a4 n0 c4) rfl (by kernel_rfl) (by kernel_rfl) (by kernel_rfl) (by kernel_rfl) (fun _ _ _ h => h) (Or.inl ⟨by rfl, ?_⟩) hS2 ?_
            · intro w hSw
              obtain ⟨z0, z1, z4, z5, z6, z7⟩ := hSw
              first
                | rfl
                | (go_simp; done)
            try simp only [Act.put, List.setIfInBounds_toArray, List.set_cons_zero, List.set_cons_succ]
            refine wpAnyT_take (i := 29) (oi := { dst := some 117, op := Op.call { callee := Callee.builtin Builtin.len, args := #[Operand.tmp 116], argTypes := #[40] }, type := 3, pos := "law.go:220", after := #[{ on := 28, ground := Ground.data }, { on := 17, ground := Ground.guard }], guard := some (17, true) }) (v := .int .i64 (n0 : Int)) rfl (by kernel_rfl) (by kernel_rfl) (by kernel_rfl) (by kernel_rfl) (fun _ _ _ h => h) (Or.inl ⟨by rfl, ?_⟩) hS2 ?_
            · intro w hSw
              obtain ⟨z0, z1, z4, z5, z6, z7⟩ := hSw
              first
                | rfl
                | (go_simp; done)
            try simp only [Act.put, List.setIfInBounds_toArray, List.set_cons_zero, List.set_cons_succ]
            refine wpAnyT_take (i := 30) (oi := { dst := some 118, op := Op.binOp BinOp.eql 3 (Operand.tmp 111) (Operand.tmp 117) 3, type := 4, pos := "law.go:220", after := #[{ on := 23, ground := Ground.data }, { on := 29, ground := Ground.data }, { on := 17, ground := Ground.guard }], guard := some (17, true) }) (v := .bool true) rfl (by kernel_rfl) (by kernel_rfl) (by kernel_rfl) (by kernel_rfl) (fun _ _ _ h => h) (Or.inl ⟨by rfl, ?_⟩) hS2 ?_
            · intro w hSw
              obtain ⟨z0, z1, z4, z5, z6, z7⟩ := hSw
              first
                | rfl
                | (go_simp; done)
            try simp only [Act.put, List.setIfInBounds_toArray, List.set_cons_zero, List.set_cons_succ]
            refine wpAnyT_take (i := 31) (oi := { dst := some 119, op := Op.pick (Operand.tmp 105) (Operand.tmp 118) (Operand.const (Value.bool false)), type := 4, pos := "law.go:220", after := #[{ on := 17, ground := Ground.data }, { on := 30, ground := Ground.data }], guard := none }) (v := .bool true) rfl (by kernel_rfl) (by kernel_rfl) (by kernel_rfl) (by kernel_rfl) (fun _ _ _ h => h) (Or.inl ⟨by rfl, ?_⟩) hS2 ?_
            · intro w hSw
              obtain ⟨z0, z1, z4, z5, z6, z7⟩ := hSw
              first
                | rfl
                | (go_simp; done)
            try simp only [Act.put, List.setIfInBounds_toArray, List.set_cons_zero, List.set_cons_succ]
            refine wpAnyT_take (i := 32) (oi := { dst := some 120, op := Op.move (Operand.tmp 119), type := 4, pos := "law.go:220", after := #[{ on := 31, ground := Ground.data }, { on := 17, ground := Ground.chain }], guard := none }) (v := .bool true) rfl (by kernel_rfl) (by kernel_rfl) (by kernel_rfl) (by kernel_rfl) (fun _ _ _ h => h) (Or.inl ⟨by rfl, ?_⟩) hS2 ?_
            · intro w hSw
              obtain ⟨z0, z1, z4, z5, z6, z7⟩ := hSw
              first
                | rfl
                | (go_simp; done)
            try simp only [Act.put, List.setIfInBounds_toArray, List.set_cons_zero, List.set_cons_succ]
            refine wpAnyT_take (i := 33) (oi := { dst := some 121, op := Op.move (Operand.tmp 3), type := 59, pos := "law.go:220", after := #[{ on := 32, ground := Ground.guard }], guard := some (32, true) }) (v := .pointer (some ⟨gp, 0, none⟩)) rfl (by kernel_rfl) (by kernel_rfl) (by kernel_rfl) (by kernel_rfl) (fun _ _ _ h => h) (Or.inl ⟨by rfl, ?_⟩) hS2 ?_
            · intro w hSw
              obtain ⟨z0, z1, z4, z5, z6, z7⟩ := hSw
              first
                | rfl
                | (go_simp; done)
            try simp only [Act.put, List.setIfInBounds_toArray, List.set_cons_zero, List.set_cons_succ]
            refine wpAnyT_take (i := 34) (oi := { dst := some 122, op := Op.nilCheck (Operand.tmp 121), type := 0, pos := "law.go:220", after := #[{ on := 33, ground := Ground.data }, { on := 32, ground := Ground.guard }], guard := some (32, true) }) (v := .pointer (some ⟨gp, 0, none⟩)) rfl (by kernel_rfl) (by kernel_rfl) (by kernel_rfl) (by kernel_rfl) (fun _ _ _ h => h) (Or.inl ⟨by rfl, ?_⟩) hS2 ?_
            · intro w hSw
              obtain ⟨z0, z1, z4, z5, z6, z7⟩ := hSw
              first
                | rfl
                | (go_simp; done)
            try simp only [Act.put, List.setIfInBounds_toArray, List.set_cons_zero, List.set_cons_succ]
            refine wpAnyT_take (i := 35) (oi := { dst := some 123, op := Op.fieldAddr 65 (Operand.tmp 122) 0, type := 0, pos := "law.go:220", after := #[{ on := 34, ground := Ground.data }, { on := 32, ground := Ground.guard }], guard := some (32, true) }) (v := .pointer (some ⟨gp, 0, none⟩)) rfl (by kernel_rfl) (by kernel_rfl) (by kernel_rfl) (by kernel_rfl) (fun _ _ _ h => h) (Or.inl ⟨by rfl, ?_⟩) hS2 ?_
            · intro w hSw
              obtain ⟨z0, z1, z4, z5, z6, z7⟩ := hSw
              first
                | rfl
                | (go_simp; done)
            try simp only [Act.put, List.setIfInBounds_toArray, List.set_cons_zero, List.set_cons_succ]
            refine wpAnyT_take (i := 36) (oi := { dst := some 124, op := Op.indexAddr 61 (Operand.tmp 123) (Operand.const (Value.int IntKind.i64 0)), type := 0, pos := "law.go:220", after := #[{ on := 35, ground := Ground.data }, { on := 32, ground := Ground.guard }], guard := some (32, true) }) (v := .pointer (some ⟨gp, 0, none⟩)) rfl (by kernel_rfl) (by kernel_rfl) (by kernel_rfl) (by kernel_rfl) (fun _ _ _ h => h) (Or.inl ⟨by rfl, ?_⟩) hS2 ?_
            · intro w hSw
              obtain ⟨z0, z1, z4, z5, z6, z7⟩ := hSw
              first
                | rfl
                | (go_simp; done)
            try simp only [Act.put, List.setIfInBounds_toArray, List.set_cons_zero, List.set_cons_succ]
            refine wpAnyT_take (i := 37) (oi := { dst := some 125, op := Op.load 23 (Operand.tmp 124), type := 23, pos := "law.go:220", after := #[{ on := 36, ground := Ground.data }, { on := 32, ground := Ground.guard }], guard := some (32, true) }) (v := .pointer (some ⟨g0', 0, none⟩)) rfl (by kernel_rfl) (by kernel_rfl) (by kernel_rfl) (by kernel_rfl) (fun _ _ _ h => h) (Or.inl ⟨by rfl, ?_⟩) hS2 ?_
            · intro w hSw
              obtain ⟨z0, z1, z4, z5, z6, z7⟩ := hSw
              first
                | rfl
                | (go_simp; done)
            try simp only [Act.put, List.setIfInBounds_toArray, List.set_cons_zero, List.set_cons_succ]
            refine wpAnyT_one (i := 38) (o := { dst := some 126, op := Op.call { callee := Callee.value (Operand.func 26), args := #[Operand.tmp 125], argTypes := #[23] }, type := 3, pos := "law.go:220", after := #[{ on := 37, ground := Ground.data }, { on := 32, ground := Ground.chain }, { on := 32, ground := Ground.guard }], guard := some (32, true) }) (by kernel_rfl) rfl (fun K hK => ?_)
            go_simp
            refine Calls.mono (waiting_ok g0' 1 aq0 0 cq0 w2 (unhide HW0 _ (unhide HI2)).1 (by decide) (unhide HW0 _ (unhide HI2)).2) ?_
            rintro r9 w9 ⟨rfl, rfl⟩
            go_wp2_with fail
            refine hK.out _ _ (fun _ => hS2) ?_
            clear hK K
            try simp only [Act.put, List.setIfInBounds_toArray, List.set_cons_zero, List.set_cons_succ]
            refine wpAnyT_take (i := 39) (oi := { dst := some 127, op := Op.binOp BinOp.eql 3 (Operand.tmp 126) (Operand.const (Value.int IntKind.i64 0)) 3, type := 4, pos := "law.go:220", after := #[{ on := 38, ground := Ground.data }, { on := 32, ground := Ground.guard }], guard := some (32, true) }) (v := .bool true) rfl (by kernel_rfl) (by kernel_rfl) (by kernel_rfl) (by kernel_rfl) (fun _ _ _ h => h) (Or.inl ⟨by rfl, ?_⟩) hS2 ?_
            · intro w hSw
              obtain ⟨z0, z1, z4, z5, z6, z7⟩ := hSw
              first
                | rfl
                | (go_simp; done)
            try simp only [Act.put, List.setIfInBounds_toArray, List.set_cons_zero, List.set_cons_succ]
            refine wpAnyT_take (i := 40) (oi := { dst := some 128, op := Op.pick (Operand.tmp 120) (Operand.tmp 127) (Operand.const (Value.bool false)), type := 4, pos := "law.go:220", after := #[{ on := 32, ground := Ground.data }, { on := 39, ground := Ground.data }], guard := none }) (v := .bool true) rfl (by kernel_rfl) (by kernel_rfl) (by kernel_rfl) (by kernel_rfl) (fun _ _ _ h => h) (Or.inl ⟨by rfl, ?_⟩) hS2 ?_
            · intro w hSw
              obtain ⟨z0, z1, z4, z5, z6, z7⟩ := hSw
              first
                | rfl
                | (go_simp; done)
            try simp only [Act.put, List.setIfInBounds_toArray, List.set_cons_zero, List.set_cons_succ]
            refine wpAnyT_take (i := 41) (oi := { dst := some 129, op := Op.move (Operand.tmp 128), type := 4, pos := "law.go:220", after := #[{ on := 40, ground := Ground.data }, { on := 38, ground := Ground.chain }], guard := none }) (v := .bool true) rfl (by kernel_rfl) (by kernel_rfl) (by kernel_rfl) (by kernel_rfl) (fun _ _ _ h => h) (Or.inl ⟨by rfl, ?_⟩) hS2 ?_
            · intro w hSw
              obtain ⟨z0, z1, z4, z5, z6, z7⟩ := hSw
              first
                | rfl
                | (go_simp; done)
            try simp only [Act.put, List.setIfInBounds_toArray, List.set_cons_zero, List.set_cons_succ]
            refine wpAnyT_take (i := 42) (oi := { dst := some 130, op := Op.move (Operand.tmp 3), type := 59, pos := "law.go:220", after := #[{ on := 41, ground := Ground.guard }], guard := some (41, true) }) (v := .pointer (some ⟨gp, 0, none⟩)) rfl (by kernel_rfl) (by kernel_rfl) (by kernel_rfl) (by kernel_rfl) (fun _ _ _ h => h) (Or.inl ⟨by rfl, ?_⟩) hS2 ?_
            · intro w hSw
              obtain ⟨z0, z1, z4, z5, z6, z7⟩ := hSw
              first
                | rfl
                | (go_simp; done)
            try simp only [Act.put, List.setIfInBounds_toArray, List.set_cons_zero, List.set_cons_succ]
            refine wpAnyT_take (i := 43) (oi := { dst := some 131, op := Op.nilCheck (Operand.tmp 130), type := 0, pos := "law.go:220", after := #[{ on := 42, ground := Ground.data }, { on := 41, ground := Ground.guard }], guard := some (41, true) }) (v := .pointer (some ⟨gp, 0, none⟩)) rfl (by kernel_rfl) (by kernel_rfl) (by kernel_rfl) (by kernel_rfl) (fun _ _ _ h => h) (Or.inl ⟨by rfl, ?_⟩) hS2 ?_
            · intro w hSw
              obtain ⟨z0, z1, z4, z5, z6, z7⟩ := hSw
              first
                | rfl
                | (go_simp; done)
            try simp only [Act.put, List.setIfInBounds_toArray, List.set_cons_zero, List.set_cons_succ]
            refine wpAnyT_take (i := 44) (oi := { dst := some 132, op := Op.fieldAddr 65 (Operand.tmp 131) 0, type := 0, pos := "law.go:220", after := #[{ on := 43, ground := Ground.data }, { on := 41, ground := Ground.guard }], guard := some (41, true) }) (v := .pointer (some ⟨gp, 0, none⟩)) rfl (by kernel_rfl) (by kernel_rfl) (by kernel_rfl) (by kernel_rfl) (fun _ _ _ h => h) (Or.inl ⟨by rfl, ?_⟩) hS2 ?_
            · intro w hSw
              obtain ⟨z0, z1, z4, z5, z6, z7⟩ := hSw
              first
                | rfl
                | (go_simp; done)
            try simp only [Act.put, List.setIfInBounds_toArray, List.set_cons_zero, List.set_cons_succ]
            refine wpAnyT_take (i := 45) (oi := { dst := some 133, op := Op.indexAddr 61 (Operand.tmp 132) (Operand.const (Value.int IntKind.i64 1)), type := 0, pos := "law.go:220", after := #[{ on := 44, ground := Ground.data }, { on := 41, ground := Ground.guard }], guard := some (41, true) }) (v := .pointer (some ⟨gp, 1, none⟩)) rfl (by kernel_rfl) (by kernel_rfl) (by kernel_rfl) (by kernel_rfl) (fun _ _ _ h => h) (Or.inl ⟨by rfl, ?_⟩) hS2 ?_
            · intro w hSw
              obtain ⟨z0, z1, z4, z5, z6, z7⟩ := hSw
              first
                | rfl
                | (go_simp; done)
            try simp only [Act.put, List.setIfInBounds_toArray, List.set_cons_zero, List.set_cons_succ]
            refine wpAnyT_take (i := 46) (oi := { dst := some 134, op := Op.load 23 (Operand.tmp 133), type := 23, pos := "law.go:220", after := #[{ on := 45, ground := Ground.data }, { on := 41, ground := Ground.guard }], guard := some (41, true) }) (v := .pointer (some ⟨g1', 0, none⟩)) rfl (by kernel_rfl) (by kernel_rfl) (by kernel_rfl) (by kernel_rfl) (fun _ _ _ h => h) (Or.inl ⟨by rfl, ?_⟩) hS2 ?_
            · intro w hSw
              obtain ⟨z0, z1, z4, z5, z6, z7⟩ := hSw
              first
                | rfl
                | (go_simp; done)
            try simp only [Act.put, List.setIfInBounds_toArray, List.set_cons_zero, List.set_cons_succ]
            refine wpAnyT_one (i := 47) (o := { dst := some 135, op := Op.call { callee := Callee.value (Operand.func 26), args := #[Operand.tmp 134], argTypes := #[23] }, type := 3, pos := "law.go:220", after := #[{ on := 46, ground := Ground.data }, { on := 41, ground := Ground.chain }, { on := 41, ground := Ground.guard }], guard := some (41, true) }) (by kernel_rfl) rfl (fun K hK => ?_)
            go_simp
            refine Calls.mono (waiting_ok g1' 1 aq1 0 cq1 w2 (unhide HW1 _ (unhide HI2)).1 (by decide) (unhide HW1 _ (unhide HI2)).2) ?_
            rintro r9 w9 ⟨rfl, rfl⟩
            go_wp2_with fail
            refine hK.out _ _ (fun _ => hS2) ?_
            clear hK K
            try simp only [Act.put, List.setIfInBounds_toArray, List.set_cons_zero, List.set_cons_succ]
            refine wpAnyT_take (i := 48) (oi := { dst := some 136, op := Op.binOp BinOp.eql 3 (Operand.tmp 135) (Operand.const (Value.int IntKind.i64 0)) 3, type := 4, pos := "law.go:220", after := #[{ on := 47, ground := Ground.data }, { on := 41, ground := Ground.guard }], guard := some (41, true) }) (v := .bool true) rfl (by kernel_rfl) (by kernel_rfl) (by kernel_rfl) (by kernel_rfl) (fun _ _ _ h => h) (Or.inl ⟨by rfl, ?_⟩) hS2 ?_
            · intro w hSw
              obtain ⟨z0, z1, z4, z5, z6, z7⟩ := hSw
              first
                | rfl
                | (go_simp; done)
            try simp only [Act.put, List.setIfInBounds_toArray, List.set_cons_zero, List.set_cons_succ]
            refine wpAnyT_take (i := 49) (oi := { dst := some 137, op := Op.pick (Operand.tmp 129) (Operand.tmp 136) (Operand.const (Value.bool false)), type := 4, pos := "law.go:220", after := #[{ on := 41, ground := Ground.data }, { on := 48, ground := Ground.data }], guard := none }) (v := .bool true) rfl (by kernel_rfl) (by kernel_rfl) (by kernel_rfl) (by kernel_rfl) (fun _ _ _ h => h) (Or.inl ⟨by rfl, ?_⟩) hS2 ?_
            · intro w hSw
              obtain ⟨z0, z1, z4, z5, z6, z7⟩ := hSw
              first
                | rfl
                | (go_simp; done)
            try simp only [Act.put, List.setIfInBounds_toArray, List.set_cons_zero, List.set_cons_succ]
            refine wpAnyT_take (i := 50) (oi := { dst := some 138, op := Op.move (Operand.tmp 137), type := 4, pos := "law.go:220", after := #[{ on := 49, ground := Ground.data }, { on := 47, ground := Ground.chain }], guard := none }) (v := .bool true) rfl (by kernel_rfl) (by kernel_rfl) (by kernel_rfl) (by kernel_rfl) (fun _ _ _ h => h) (Or.inl ⟨by rfl, ?_⟩) hS2 ?_
            · intro w hSw
              obtain ⟨z0, z1, z4, z5, z6, z7⟩ := hSw
              first
                | rfl
                | (go_simp; done)
            try simp only [Act.put, List.setIfInBounds_toArray, List.set_cons_zero, List.set_cons_succ]
            refine wpAnyT_one (i := 51) (o := { dst := some 139, op := Op.call { callee := Callee.value (Operand.func 13), args := #[], argTypes := #[] }, type := 4, pos := "law.go:220", after := #[{ on := 50, ground := Ground.chain }, { on := 50, ground := Ground.guard }], guard := some (50, true) }) (by kernel_rfl) rfl (fun K hK => ?_)
            go_simp
            refine Calls.mono (awake_any _) ?_
            rintro r9 w3 ⟨rfl, hb⟩
            have HE : Hid (Below w.heap.size w w3) := hide ((unhide HB2).trans (hb.mono (unhide HB2).size))
            have hS3 := unhide HSS _ ((unhide HI2).call hb)
            clear hb
            go_wp2_with fail
            refine hK.out _ _ (fun _ => hS3) ?_
            clear hK K
            try simp only [Act.put, List.setIfInBounds_toArray, List.set_cons_zero, List.set_cons_succ]
            refine wpAnyT_take (i := 52) (oi := { dst := some 140, op := Op.pick (Operand.tmp 138) (Operand.tmp 139) (Operand.const (Value.bool false)), type := 4, pos := "law.go:220", after := #[{ on := 50, ground := Ground.data }, { on := 51, ground := Ground.data }], guard := none }) (v := .bool true) rfl (by kernel_rfl) (by kernel_rfl) (by kernel_rfl) (by kernel_rfl) (fun _ _ _ h => h) (Or.inl ⟨by rfl, ?_⟩) hS3 ?_
            · intro w hSw
              obtain ⟨z0, z1, z4, z5, z6, z7⟩ := hSw
              first
                | rfl
                | (go_simp; done)
            try simp only [Act.put, List.setIfInBounds_toArray, List.set_cons_zero, List.set_cons_succ]
            refine wpAnyT_pure (i := 53) (oi := { dst := some 2, op := Op.assign (Operand.tmp 140), type := 4, pos := "law.go:220", after := #[{ on := 52, ground := Ground.data }, { on := 51, ground := Ground.chain }, { on := 0, ground := Ground.phase }, { on := 1, ground := Ground.phase }, { on := 2, ground := Ground.phase }, { on := 3, ground := Ground.phase }, { on := 4, ground := Ground.phase }, { on := 5, ground := Ground.phase }, { on := 6, ground := Ground.phase }, { on := 7, ground := Ground.phase }, { on := 8, ground := Ground.phase }, { on := 9, ground := Ground.phase }, { on := 10, ground := Ground.phase }, { on := 11, ground := Ground.phase }, { on := 12, ground := Ground.phase }, { on := 13, ground := Ground.phase }, { on := 14, ground := Ground.phase }, { on := 15, ground := Ground.phase }, { on := 16, ground := Ground.phase }, { on := 17, ground := Ground.phase }, { on := 18, ground := Ground.phase }, { on := 19, ground := Ground.phase }, { on := 20, ground := Ground.phase }, { on := 21, ground := Ground.phase }, { on := 22, ground := Ground.phase }, { on := 23, ground := Ground.phase }, { on := 24, ground := Ground.phase }, { on := 25, ground := Ground.phase }, { on := 26, ground := Ground.phase }, { on := 27, ground := Ground.phase }, { on := 28, ground := Ground.phase }, { on := 29, ground := Ground.phase }, { on := 30, ground := Ground.phase }, { on := 31, ground := Ground.phase }, { on := 32, ground := Ground.phase }, { on := 33, ground := Ground.phase }, { on := 34, ground := Ground.phase }, { on := 35, ground := Ground.phase }, { on := 36, ground := Ground.phase }, { on := 37, ground := Ground.phase }, { on := 38, ground := Ground.phase }, { on := 39, ground := Ground.phase }, { on := 40, ground := Ground.phase }, { on := 41, ground := Ground.phase }, { on := 42, ground := Ground.phase }, { on := 43, ground := Ground.phase }, { on := 44, ground := Ground.phase }, { on := 45, ground := Ground.phase }, { on := 46, ground := Ground.phase }, { on := 47, ground := Ground.phase }, { on := 48, ground := Ground.phase }, { on := 49, ground := Ground.phase }, { on := 50, ground := Ground.phase }, { on := 51, ground := Ground.phase }, { on := 52, ground := Ground.phase }], guard := none }) (v := .bool true) rfl (by kernel_rfl) (by kernel_rfl) (by kernel_rfl) rfl (fun _ _ _ h => h) (Or.inl ⟨by rfl, ?_⟩) ?_
            · intro w hSw
              first
                | rfl
                | (go_simp; done)
            try simp only [Act.put, List.setIfInBounds_toArray, List.set_cons_zero, List.set_cons_succ]
            refine wpAnyT_done (by kernel_rfl) ?_ _
            go_wp2_with fail
            go_ret
            exact ⟨rfl, unhide HE⟩
end Go.Proofs.Ytmkpphkdaiienaa
