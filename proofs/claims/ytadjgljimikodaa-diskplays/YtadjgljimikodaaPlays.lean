/- For any room and any calls the Go function sealskinlaw05.DiskPlays returns true, and its arguments read as they did. No condition. -/
import Derived.Test.YtadjgljimikodaaPlays0
namespace Go.Proofs.Ytadjgljimikodaa.plays
set_option linter.unusedVariables false
set_option linter.unusedSimpArgs false
open Go.ChangeShapes Go.WideShapes Go.ChangeAt Go.RowKit Go.Joins

def G2 (a b : Nat) : Nat → Nat := fun i => match i with | 0 => a | _ => b
def D2 (a b : DS) : Nat → DS := fun i => match i with | 0 => a | _ => b
theorem start_at0' (w w1 : World) (d : DS) (h : Dk w1 w.heap.size nils d) : At w.heap.size w1 w.heap.size d :=
  ⟨nils, h, fun k hk => by
    rcases hk with rfl | ⟨i, hi, hk⟩
    · exact Nat.le_refl _
    · simp [nils, Value.ownBlock] at hk⟩
theorem len_total : ∀ (L : List Cl) (c : Cl), c ∈ L → c.b.length ≤ total L := by
  intro L
  induction L with
  | nil => intro c hc; cases hc
  | cons x L ih =>
    intro c hc
    simp only [total, List.map_cons, List.sum_cons]
    rcases List.mem_cons.1 hc with rfl | hc
    · omega
    · have := ih c hc
      simp only [total] at this
      omega
theorem fam_two {X : Nat → Prop} {w : World} {G : Nat → Nat} {D D' : Nat → DS} (h : Fam X 2 w G D) (h0 : D 0 = D' 0) (h1 : D 1 = D' 1) : Fam X 2 w G D' :=
  h.cast (fun i _ => rfl) (fun i hi => match i, hi with | 0, _ => h0 | 1, _ => h1)

set_option maxRecDepth 100000 in
set_option maxHeartbeats 8000000 in
theorem walk (room : Int) (a : Option Addr) (L : List Cl) (cap : Nat) (w : World) (hL : Dos w a L) (hc : L.length ≤ cap) (hm : cap ≤ maxLen) :
    Calls Try.prog 3 #[.int .i64 room, .slice a L.length cap] w fun e w' => e = .returned (.bool true) ∧ Below w.heap.size w w' := by
  have HL := hide hL
  have hm0 := hide hm
  unfold maxLen at hm
  obtain ⟨nl, hn⟩ : ∃ n, L.length = n := ⟨_, rfl⟩
  rw [hn] at hc
  rw [hn]
  have HN := hide hn
  clear hL hn
  by_cases hroom : room < 1 ∨ 16777216 < room
  · have K1 := hide (new_bad room w hroom)
    have K2 := hide (rnew_bad room w hroom)
    clear hroom
    go_enter Try.func3, Try.ntmps3
    go_wp2_with fail
    refine (unhide K1).mono ?_
    rintro e w1 ⟨rfl, rfl⟩
    go_wp2_with fail
    refine (unhide K2).mono ?_
    rintro e w1 ⟨rfl, rfl⟩
    go_wp2_with (go_at_call 12; refine (awake_any _).mono ?_; rintro e w' ⟨rfl, hb⟩)
    go_ret
    exact ⟨rfl, hb⟩
  have hr1 : 1 ≤ room := by omega
  have hr2 : room ≤ 16777216 := by omega
  have K1 := hide (new_any room w hr1 hr2)
  clear hroom
  go_enter Try.func3, Try.ntmps3
  go_wp2_with fail
  refine (unhide K1).mono ?_
  clear K1
  rintro e w1 ⟨rfl, hd1, hb1⟩
  have hat1 := start_at0 w w1 _ hd1
  have K2 := hide (rnew_any room w1 hr1 hr2)
  have HF1 := hide (Fam.one (AtX.of_at hat1))
  have HB1 := hide hb1
  clear hd1 hat1 hb1
  go_wp2_with fail
  refine (unhide K2).mono ?_
  clear K2
  rintro e w2 ⟨rfl, hd2, hb2⟩
  have hat2 := start_at0' w1 w2 _ hd2
  have hX1 : ∀ x, x < w.heap.size → x < w1.heap.size := fun x hx => Nat.lt_of_lt_of_le hx (unhide HB1).size
  have hf2 : Fam (fun x => x < w.heap.size) 2 w2 (G2 w.heap.size w1.heap.size) (D2 (DS.start room.toNat) (DS.start room.toNat).flip) :=
    ((unhide HF1).add hX1 hat2 hb2).cast (fun i hi => match i, hi with | 0, _ => rfl | 1, _ => rfl) (fun i hi => match i, hi with | 0, _ => rfl | 1, _ => rfl)
  have hB2 := (unhide HB1).trans (hb2.mono (unhide HB1).size)
  have h256 : (DS.start room.toNat).B256 := fun i _ y hy => by cases hy
  obtain ⟨d0, hd0⟩ : ∃ d0, DS.start room.toNat = d0 := ⟨_, rfl⟩
  rw [hd0] at hf2 h256
  have KS := short_any a L cap w2 ((unhide HL).call hB2) (by rw [unhide HN]; exact hc) (unhide hm0)
  rw [unhide HN] at KS
  have KS := hide KS
  have HF2 := hide hf2
  have HB2 := hide hB2
  have H256 := hide h256
  clear hd2 hb2 hat2 hX1 hf2 hB2 h256 hd0
  go_wp2_with fail
  refine (unhide KS).mono ?_
  clear KS
  rintro e w3 ⟨⟨r, rfl, hr⟩, rfl⟩
  cases r
  · clear hr
    have hB := unhide HB2
    go_wp2_with (go_at_call 12; refine (awake_any _).mono ?_; rintro e w' ⟨rfl, hb⟩)
    go_ret
    exact ⟨rfl, hB.trans (hb.mono hB.size)⟩
  have HR := hide (hr rfl)
  clear hr
  have hw12 : w.heap.size ≤ w1.heap.size := (unhide HB1).size
  go_wp2_with fail
  go_loopw [49] (fun i wr => ∃ k : Nat, k ≤ nl ∧ i = .int .i64 k ∧ Fam (fun x => x < w.heap.size) 2 wr (G2 w.heap.size w1.heap.size) (D2 (d0.run (L.take k)) (d0.run (L.take k)).flip) ∧ Below w.heap.size w wr) (fun i _ => nl - (intOf i).toNat)
  case atStart => exact ⟨0, by omega, rfl, by simpa [DS.run] using unhide HF2, unhide HB2⟩
  case round =>
    obtain ⟨k, hk, rfl, hfam, hbel⟩ := hrel
    by_cases g1 : k < nl
    · have i1 : (k : Int) < (nl : Int) := by omega
      have i0 : (0 : Int) ≤ (k : Int) := by omega
      obtain ⟨c, hc1⟩ : ∃ c, L[k]? = some c := ⟨_, List.getElem?_eq_getElem (by rw [unhide HN]; exact g1)⟩
      have hD := (unhide HL).call hbel
      rcases hD.2 with h0 | ⟨b, off, rfl, hlt, hx⟩
      · rw [h0] at hc1; simp at hc1
      obtain ⟨q0, q1, q2, q3⟩ := hx k c hc1
      have hok := hD.1 c (List.mem_of_getElem? hc1)
      have hok0 := (unhide HL).1 c (List.mem_of_getElem? hc1)
      have hrun := hide (d0.run_next hc1)
      have h256k : (d0.run (L.take k)).B256 := DS.run256 _ _ (unhide H256) (fun c hc => ((unhide HL).1 c (List.mem_of_mem_take hc)).b256)
      have h256n : (d0.run (L.take (k + 1))).B256 := DS.run256 _ _ (unhide H256) (fun c hc => ((unhide HL).1 c (List.mem_of_mem_take hc)).b256)
      have hblen : c.b.length ≤ 16384 := by
        have h1 := (unhide HR).2
        have h2 : c.b.length ≤ total L := len_total L c (List.mem_of_getElem? hc1)
        omega
      obtain ⟨a1, cap1, hv⟩ := byt_shape hok.byt
      rw [hv] at q3
      generalize hdk : d0.run (L.take k) = dk at *
      have hal4 : Below wr.heap.size wr ((wr.alloc (.cells #[.int .i64 c.op, .int .i64 c.file, .int .i64 c.n, .slice a1 c.b.length cap1] 34)).alloc (.cells #[.int .i64 c.op, .int .i64 c.file, .int .i64 c.n, .slice a1 c.b.length cap1] 34)) := ((Below.refl _ _).alloc (Nat.le_refl _) _).alloc (by simp) _
      have hs4 : ((wr.alloc (.cells #[.int .i64 c.op, .int .i64 c.file, .int .i64 c.n, .slice a1 c.b.length cap1] 34)).alloc (.cells #[.int .i64 c.op, .int .i64 c.file, .int .i64 c.n, .slice a1 c.b.length cap1] 34)).heap.size = wr.heap.size + 1 + 1 := by simp
      have hcl := clone_any (.slice a1 c.b.length cap1) c.b ((wr.alloc (.cells #[.int .i64 c.op, .int .i64 c.file, .int .i64 c.n, .slice a1 c.b.length cap1] 34)).alloc (.cells #[.int .i64 c.op, .int .i64 c.file, .int .i64 c.n, .slice a1 c.b.length cap1] 34)) (by have q := hok.byt.call hal4; rw [hv] at q; exact q) (by omega)
      have hvk : ∀ i u, #[.int .i64 c.op, .int .i64 c.file, .int .i64 c.n, .slice a1 c.b.length cap1][i]? = some u → ((wr.alloc (.cells #[.int .i64 c.op, .int .i64 c.file, .int .i64 c.n, .slice a1 c.b.length cap1] 34)).alloc (.cells #[.int .i64 c.op, .int .i64 c.file, .int .i64 c.n, .slice a1 c.b.length cap1] 34)).cell? ⟨wr.heap.size, i, none⟩ = some u ∧ ((wr.alloc (.cells #[.int .i64 c.op, .int .i64 c.file, .int .i64 c.n, .slice a1 c.b.length cap1] 34)).alloc (.cells #[.int .i64 c.op, .int .i64 c.file, .int .i64 c.n, .slice a1 c.b.length cap1] 34)).cell? ⟨wr.heap.size + 1, i, none⟩ = some u := by
        intro i u hu
        match i, hu with
        | 0, hu => simp at hu; subst hu; constructor <;> (simp [go_sem]; done)
        | 1, hu => simp at hu; subst hu; constructor <;> (simp [go_sem]; done)
        | 2, hu => simp at hu; subst hu; constructor <;> (simp [go_sem]; done)
        | 3, hu => simp at hu; subst hu; constructor <;> (simp [go_sem]; done)
      have hvz : ((wr.alloc (.cells #[.int .i64 c.op, .int .i64 c.file, .int .i64 c.n, .slice a1 c.b.length cap1] 34)).alloc (.cells #[.int .i64 c.op, .int .i64 c.file, .int .i64 c.n, .slice a1 c.b.length cap1] 34)).frozen? ⟨wr.heap.size + 1, 3, none⟩ = false := by simp [go_sem]
      have KC := hide hcl
      have HVK := hide hvk
      have HVZ := hide hvz
      have HAL4 := hide hal4
      have HS4 := hide hs4
      have HFAM := hide hfam
      have HBEL := hide hbel
      have HOK0 := hide hok0
      have HV := hide hv
      have H256K := hide h256k
      have H256N := hide h256n
      have hszw := hbel.size
      have hg1 : w1.heap.size < wr.heap.size := hfam.lt (i := 1) (by decide)
      clear hcl hvk hvz hal4 hs4 hfam hbel hok hok0 hx hD hc1 hv h256k h256n
      generalize hbl : c.b.length = nb at *
      go_wp2_with fail
      refine (unhide KC).mono ?_
      clear KC
      rintro e w5 ⟨v5, rfl, ho5, hb5⟩
      rw [unhide HS4] at ho5 hb5
      have ho5' : New (wr.heap.size + 1 + 1) w5 v5 c.b := by unfold New; rw [hbl]; exact ho5
      obtain ⟨a5, p5, e5⟩ := ho5'.shape
      rw [hbl] at e5
      subst e5
      have hz5 : wr.heap.size + 1 + 1 ≤ w5.heap.size := by have := hb5.size; rw [unhide HS4] at this; exact this
      have hb6 : Below wr.heap.size wr (w5.setCell ⟨wr.heap.size + 1, 3, none⟩ (.slice a5 nb p5)) := ((unhide HAL4).trans (hb5.mono (by omega))).setCell (by simp) _
      have hO6 : Only (fun x => x = wr.heap.size + 1) w5 (w5.setCell ⟨wr.heap.size + 1, 3, none⟩ (.slice a5 nb p5)) := (Only.refl (fun x => x = wr.heap.size + 1) w5).set _ _ _ rfl
      have hn6 : New (wr.heap.size + 1 + 1) (w5.setCell ⟨wr.heap.size + 1, 3, none⟩ (.slice a5 nb p5)) (.slice a5 nb p5) c.b := ho5'.only hO6 (fun x h1 _ q => by omega)
      have hlk : wr.heap.size < wr.heap.size + 1 + 1 := by omega
      have hlk1 : wr.heap.size + 1 < wr.heap.size + 1 + 1 := by omega
      have r0 := cell_keep hb5 hlk ((unhide HVK) 0 _ rfl).1
      have r1 := cell_keep hb5 hlk ((unhide HVK) 1 _ rfl).1
      have r2 := cell_keep hb5 hlk ((unhide HVK) 2 _ rfl).1
      have r3 := cell_keep hb5 hlk ((unhide HVK) 3 _ rfl).1
      have s0 := cell_keep hb5 hlk1 ((unhide HVK) 0 _ rfl).2
      have s1 := cell_keep hb5 hlk1 ((unhide HVK) 1 _ rfl).2
      have s2 := cell_keep hb5 hlk1 ((unhide HVK) 2 _ rfl).2
      have s3 := cell_keep hb5 hlk1 ((unhide HVK) 3 _ rfl).2
      have z3 : w5.frozen? ⟨wr.heap.size + 1, 3, none⟩ = false := by rw [hb5.frozen (p := ⟨wr.heap.size + 1, 3, none⟩) hlk1]; exact unhide HVZ
      have hne : ¬ (wr.heap.size = wr.heap.size + 1) := by omega
      have T6 := hide (And.intro (And.intro (hO6.cell hne r0) (And.intro (hO6.cell hne r1) (And.intro (hO6.cell hne r2) (hO6.cell hne r3)))) (show (w5.setCell ⟨wr.heap.size + 1, 3, none⟩ (.slice a5 nb p5)).cell? ⟨wr.heap.size + 1, 3, none⟩ = some (.slice a5 nb p5) from set_same _ s3))
      obtain ⟨w6, hw6⟩ : ∃ w6, w5.setCell ⟨wr.heap.size + 1, 3, none⟩ (.slice a5 nb p5) = w6 := ⟨_, rfl⟩
      rw [hw6] at hb6 hn6 T6
      have hs6 : wr.heap.size + 1 + 1 ≤ w6.heap.size := by rw [← hw6]; simpa using hz5
      have hX6 : ∀ x, (x < w.heap.size ∨ (wr.heap.size ≤ x ∧ x < w6.heap.size)) → x < w6.heap.size := fun x hx => by omega
      have hf6 : Fam (fun x => x < w.heap.size ∨ (wr.heap.size ≤ x ∧ x < w6.heap.size)) 2 w6 (G2 w.heap.size w1.heap.size) (D2 dk dk.flip) := ((unhide HFAM).more (fun x hx => by omega)).call hb6
      have hB6 := (unhide HBEL).trans (hb6.mono hszw)
      have hlt6 := hn6.lt
      have KD := fam_does _ 2 _ _ 0 (by decide) w.heap.size rfl { c with v := .slice a5 nb p5 } w6 hf6 hX6 ⟨hn6.byt, (unhide HOK0).n, (unhide HOK0).b256⟩ (fun _ x hx => by have := (hlt6 x hx).1; omega)
      have KD := hide KD
      have HU6 := hide (U8.of_own hn6)
      have HX6 := hide hX6
      have HB6 := hide hB6
      have HBW6 := hide hb6
      have HLT6 := hide hlt6
      have HW6 := hide hw6
      clear ho5 ho5' hb5 hb6 hO6 hn6 r0 r1 r2 hX6 hf6 hB6 hlt6 hw6 hz5
      go_wp2_with fail
      rw [unhide HW6]
      clear r3 s0 s1 s2 s3 z3 HW6
      refine (unhide KD).mono ?_
      clear KD
      rintro e w7 ⟨rfl, hf7, hk7⟩
      have hf7' := fam_two (D' := D2 (dk.step c) dk.flip) hf7 rfl rfl
      have hU7 : U8 w7 (.slice a5 nb p5) nb := by
        have q := unhide HU6
        rw [hbl] at q
        exact q.keep hk7 (fun x hx => .inr ⟨by have := (unhide HLT6 x hx).1; omega, (unhide HLT6 x hx).2⟩)
      have hkb : wr.heap.size < w.heap.size ∨ (wr.heap.size ≤ wr.heap.size ∧ wr.heap.size < w6.heap.size) := .inr ⟨Nat.le_refl _, by omega⟩
      have hkb1 : wr.heap.size + 1 < w.heap.size ∨ (wr.heap.size ≤ wr.heap.size + 1 ∧ wr.heap.size + 1 < w6.heap.size) := .inr ⟨by omega, by omega⟩
      obtain ⟨⟨t0, t1, t2, t3⟩, t4⟩ := unhide T6
      have T7 := hide (And.intro (And.intro ((hk7.cell (q := ⟨wr.heap.size, 0, none⟩) hkb).trans t0) (And.intro ((hk7.cell (q := ⟨wr.heap.size, 1, none⟩) hkb).trans t1) (And.intro ((hk7.cell (q := ⟨wr.heap.size, 2, none⟩) hkb).trans t2) ((hk7.cell (q := ⟨wr.heap.size, 3, none⟩) hkb).trans t3)))) ((hk7.cell (q := ⟨wr.heap.size + 1, 3, none⟩) hkb1).trans t4))
      have HF7 := hide hf7'
      have HU7 := hide hU7
      have HB7 := hide ((unhide HB6).trans (hk7.below (fun x hx => .inl hx)))
      have HZ7 := hide (p := w6.heap.size ≤ w7.heap.size) hk7.size
      have u4 := (unhide T7).2
      clear hf7 hf7' hk7 hU7 t0 t1 t2 t3 t4 T6 hkb hkb1
      rw [show (D2 dk dk.flip 0).doE c.op c.file c.n c.b = dk.doE c.op c.file c.n c.b from rfl]
      have hz6 : wr.heap.size + 1 + 1 ≤ w6.heap.size := hs6
      clear HS4 HVK HVZ HAL4 HFAM HBEL HBW6 HB6
      generalize hkbz : wr.heap.size = kb at *
      clear hkbz
      go_wp2_with fail
      go_loopw [12, 64] (fun _ i wx => ∃ q : Nat, q ≤ nb ∧ i = .int .i64 q ∧ U8 wx (.slice a5 nb p5) nb ∧ Only (fun x => (Value.slice a5 nb p5).ownBlock = some x) w7 wx) (fun _ i _ => nb - (intOf i).toNat)
      case atStart => exact ⟨0, by omega, rfl, unhide HU7, Only.refl _ _⟩
      case round =>
        obtain ⟨q, hq, rfl, hU, hO⟩ := hrel
        by_cases hqn : q < nb
        · rcases id hU with ⟨_, h0⟩ | ⟨gb, cp, e, hj⟩
          · omega
          injection e with e1 e2 e3
          subst e1 e3
          obtain ⟨⟨y, hy⟩, hz⟩ := hj q hqn
          have hgb := (unhide HLT6 gb rfl).1
          have v4 := hO.cell (q := ⟨kb + 1, 3, none⟩) (fun e => by simp [Value.ownBlock] at e; omega) (unhide T7).2
          have j1 : (q : Int) < (nb : Int) := by omega
          have j0 : (0 : Int) ≤ (q : Int) := by omega
          have HU := hide hU
          have HO := hide hO
          clear hj hU hO u4
          go_wp2
          go_roundw
          case rel => exact ⟨q + 1, by omega, by go_num, (unhide HU).set _, (unhide HO).set gb q _ rfl⟩
          case measure => simp [intOf]; omega
        · have hqn2 : q = nb := by omega
          have hown : ∀ x, (Value.slice a5 nb p5).ownBlock = some x → kb + 1 + 1 ≤ x ∧ x < w6.heap.size := unhide HLT6
          have hf8 := (unhide HF7).keepX hO (fun x hx => .inr ⟨by have := (hown x hx).1; omega, (hown x hx).2⟩)
          have hX8 : ∀ x, (x < w.heap.size ∨ (kb ≤ x ∧ x < w6.heap.size)) → x < wr.heap.size := fun x hx => by
            have h1 := unhide HX6 x hx
            have h2 := unhide HZ7
            have h3 := hO.size
            omega
          have hBr : Below w.heap.size w wr := by
            refine (unhide HB7).trans (hO.below (by have := unhide HZ7; omega) (fun x hx => by have := (hown x hx).1; omega))
          have nk : ¬ ((Value.slice a5 nb p5).ownBlock = some kb) := fun e => by have := (hown kb e).1; omega
          obtain ⟨⟨t0, t1, t2, t3⟩, -⟩ := unhide T7
          have y0 := hO.cell (q := ⟨kb, 0, none⟩) nk t0
          have y1 := hO.cell (q := ⟨kb, 1, none⟩) nk t1
          have y2 := hO.cell (q := ⟨kb, 2, none⟩) nk t2
          have y3 := hO.cell (q := ⟨kb, 3, none⟩) nk t3
          obtain ⟨er, hde⟩ : ∃ er, dk.doE c.op c.file c.n c.b = er := ⟨_, rfl⟩
          rw [hde]
          have HN256 : Hid (dk.step c).B256 := hide (by have q := unhide H256N; rw [unhide hrun] at q; exact q)
          obtain ⟨kd, hkd⟩ : ∃ kd, wrap64 ((IntKind.u64.wrap c.op).tmod 9) = kd := ⟨_, rfl⟩
          clear t0 t1 t2 t3 hU hO nk hown u4
          by_cases q4 : kd = 4
          · subst q4
            have e1 : dk.doE c.op c.file c.n c.b = dk.wipeE c.file := by unfold DS.doE kind; rw [hkd]; rfl
            have e2 : dk.step c = dk.wipeD c.file := by unfold DS.step DS.doD kind; rw [hkd]; rfl
            have KX := hide (fam_rwipe _ _ _ dk w1.heap.size wr rfl rfl c.file hf8 hX8)
            rw [← e1, hde] at KX
            have HX := hide hX8
            have HBR := hide hBr
            have E2 := hide e2
            clear hf8 hX8 hBr e1 e2
            go_wp2_with fail
            refine (unhide KX).mono ?_
            clear KX
            rintro e w8 ⟨rfl, hf9, hk9⟩
            have hf8 := (fam_two (D' := D2 (dk.step c) (dk.step c).flip) hf9 rfl (by show _ = (dk.step c).flip; rw [unhide E2]; rfl)).more (Y := fun x => x < w.heap.size) (fun x hx => .inl (.inl hx))
            have hB8 := (unhide HBR).trans (hk9.below (fun x hx => .inl hx))
            clear hf9 hk9
            have hX0 : ∀ x, x < w.heap.size → x < w8.heap.size := fun x hx => Nat.lt_of_lt_of_le hx hB8.size
            have KU := hide (fam_used _ 2 _ _ 0 (by decide) w.heap.size rfl w8 hf8)
            have KR := hide (fam_rused _ _ _ (dk.step c) w1.heap.size w8 rfl rfl hf8)
            have HF8 := hide hf8
            have HB8 := hide hB8
            clear hf8 hB8 hX0
            go_wp2_with fail
            refine (unhide KU).mono ?_
            clear KU
            rintro e w' ⟨rfl, rfl⟩
            rw [show (D2 (dk.step c) (dk.step c).flip 0).used = (dk.step c).used from rfl]
            generalize (dk.step c).used = us at *
            go_wp2_with fail
            refine (unhide KR).mono ?_
            clear KR
            rintro e w9 ⟨rfl, m9, rfl⟩
            have HF9 := hide ((unhide HF8).call (Joins.below_draws _ _ m9))
            have HB9 := hide ((unhide HB8).trans (Joins.below_draws _ _ m9))
            generalize w8.drewN m9 = w9 at *
            clear HF8 HB8
            go_wp2_with fail
            go_loopw [13] (fun i wr => ∃ z : Int, -1 ≤ z ∧ z ≤ 4 ∧ i = .int .i64 z ∧ Fam (fun x => x < w.heap.size) 2 wr (G2 w.heap.size w1.heap.size) (D2 (dk.step c) (dk.step c).flip) ∧ Below w.heap.size w wr) (fun i _ => (4 - intOf i).toNat)
            case atStart => exact ⟨-1, by omega, by omega, rfl, unhide HF9, unhide HB9⟩
            case round =>
              obtain ⟨z, hz1, hz2, rfl, hfz, hbz⟩ := hrel
              by_cases hz3 : z ≤ 3
              · by_cases hbad : (dk.step c).on = false ∨ ¬ inF z
                · have K1 := hide (fam_readbad _ 2 _ _ 0 (by decide) w.heap.size rfl z wr hfz hbad)
                  have K2 := hide (fam_rreadbad _ _ _ (dk.step c) w1.heap.size wr rfl rfl z hbad hfz)
                  have K3 := hide (equal_same (.slice none 0 0) (.slice none 0 0) [] wr (nil_byt _) (nil_byt _) (fun y hy => by cases hy))
                  have FIN := hide (And.intro hfz hbz)
                  clear hfz hbz hbad
                  go_wp2_with fail
                  refine (unhide K1).mono ?_
                  clear K1
                  rintro e w' ⟨rfl, rfl⟩
                  rw [show (D2 (dk.step c) (dk.step c).flip 0).checkF z = (dk.step c).checkF z from rfl]
                  generalize (dk.step c).checkF z = ck at *
                  go_wp2_with fail
                  refine (unhide K2).mono ?_
                  clear K2
                  rintro e w' ⟨rfl, rfl⟩
                  go_wp2_with fail
                  refine (unhide K3).mono ?_
                  clear K3
                  rintro e w' ⟨rfl, rfl⟩
                  go_wp2_with fail
                  go_loop [148] (fun i => i = .int .i64 0) (fun _ => 0)
                  case atStart => rfl
                  case round =>
                    obtain rfl := hrel
                    go_wp2
                    go_roundw
                    case rel => exact ⟨z + 1, by omega, by omega, by go_num, unhide FIN⟩
                    case measure => simp [intOf]; omega
                · have hon : (dk.step c).on = true := by cases hd : (dk.step c).on; exact absurd (.inl hd) hbad; rfl
                  have hin : inF z := Classical.byContradiction fun q => hbad (.inr q)
                  unfold inF at hin
                  obtain ⟨f, rfl⟩ := Int.eq_ofNat_of_zero_le hin.1
                  have hf3 : f < 3 := by omega
                  have K1 := hide (fam_read _ 2 _ _ 0 (by decide) w.heap.size rfl f wr hfz hon hf3)
                  have hnF : ((dk.step c).F f).length ≤ 16777216 := (hfz.ok (i := 0) (by decide)).len f hf3
                  have HON := hide hon
                  have HFZ := hide hfz
                  have HBZ := hide hbz
                  have H2 := hide (unhide HN256 f hf3)
                  clear hfz hbz hbad hon hin
                  go_wp2_with fail
                  refine (unhide K1).mono ?_
                  clear K1
                  rintro e wa ⟨va, rfl, na, hba⟩
                  replace na : New wr.heap.size wa va ((dk.step c).F f) := na
                  obtain ⟨ar, cr, hbr, K2⟩ := fam_rread _ _ _ (dk.step c) w1.heap.size wa rfl rfl f (unhide HON) hf3 ((unhide HFZ).call hba)
                  obtain ⟨a7, p7, rfl⟩ := na.shape
                  have K3 := hide (equal_same _ _ _ wa na.byt hbr (unhide H2))
                  have hU7a := U8.of_own na
                  have hltA := na.lt
                  have hfA : Fam (fun x => x < w.heap.size ∨ (wr.heap.size ≤ x ∧ x < wa.heap.size)) 2 wa (G2 w.heap.size w1.heap.size) (D2 (dk.step c) (dk.step c).flip) := ((unhide HFZ).more (fun x hx => by omega)).call hba
                  have hbA := (unhide HBZ).trans (hba.mono (unhide HBZ).size)
                  have hszA : w.heap.size ≤ wr.heap.size := (unhide HBZ).size
                  have HUA := hide hU7a
                  have HLA := hide hltA
                  have HFA := hide hfA
                  have HBA := hide hbA
                  have K2 := hide K2
                  clear na hbr hba hU7a hltA hfA hbA HFZ HBZ
                  generalize wr.heap.size = wsz at *
                  generalize ((dk.step c).F f).length = nF at *
                  go_wp2_with fail
                  refine (unhide K2).mono ?_
                  clear K2
                  rintro e w' ⟨rfl, rfl⟩
                  go_wp2_with fail
                  refine (unhide K3).mono ?_
                  clear K3
                  rintro e w' ⟨rfl, rfl⟩
                  go_wp2_with fail
                  go_loopw [18, 148] (fun _ i wr => ∃ q : Nat, q ≤ nF ∧ i = .int .i64 q ∧ U8 wr (.slice a7 nF p7) nF ∧ Only (fun x => (Value.slice a7 nF p7).ownBlock = some x) wa wr) (fun _ i _ => nF - (intOf i).toNat)
                  case atStart => exact ⟨0, by omega, rfl, unhide HUA, Only.refl _ _⟩
                  case round =>
                    obtain ⟨q, hq, rfl, hU, hO⟩ := hrel
                    by_cases hqn : q < nF
                    · rcases id hU with ⟨_, h0⟩ | ⟨gb, cp, e, hj⟩
                      · omega
                      injection e with e1 e2 e3
                      subst e1 e3
                      obtain ⟨⟨y, hy⟩, hz⟩ := hj q hqn
                      have j1 : (q : Int) < (nF : Int) := by omega
                      have j0 : (0 : Int) ≤ (q : Int) := by omega
                      have HU := hide hU
                      have HO := hide hO
                      clear hj hU hO
                      go_wp2
                      go_roundw
                      case rel => exact ⟨q + 1, by omega, by go_num, (unhide HU).set _, (unhide HO).set gb q _ rfl⟩
                      case measure => simp [intOf]; omega
                    · have hfB := ((unhide HFA).keepX hO (fun x hx => .inr (unhide HLA x hx))).more (Y := fun x => x < w.heap.size) (fun x hx => .inl (.inl hx))
                      have hbB : Below w.heap.size w wr := (unhide HBA).trans (hO.below (unhide HBA).size (fun x hx => by have := (unhide HLA x hx).1; omega))
                      have FIN := hide (And.intro hfB hbB)
                      clear hfB hbB hU hO
                      go_wp2
                      go_roundw
                      case rel => exact ⟨(f : Int) + 1, by omega, by omega, by go_num, unhide FIN⟩
                      case measure => simp [intOf]; omega
              · have hz4 : z = 4 := by omega
                subst hz4
                have FIN := hide (And.intro hfz hbz)
                clear hfz hbz
                go_wp2
                go_roundw
                case rel => exact ⟨k + 1, by omega, by go_num, by rw [unhide hrun]; exact (unhide FIN).1, (unhide FIN).2⟩
                case measure => simp [intOf]; omega
          by_cases q5 : kd = 5
          · subst q5
            have e1 : dk.doE c.op c.file c.n c.b = dk.check := by unfold DS.doE kind; rw [hkd]; rfl
            have e2 : dk.step c = dk.crashD := by unfold DS.step DS.doD kind; rw [hkd]; rfl
            have KX := hide (fam_rcrash _ _ _ dk w1.heap.size wr rfl rfl hf8 hX8)
            rw [← e1, hde] at KX
            have HX := hide hX8
            have HBR := hide hBr
            have E2 := hide e2
            clear hf8 hX8 hBr e1 e2
            go_wp2_with fail
            refine (unhide KX).mono ?_
            clear KX
            rintro e w8 ⟨rfl, hf9, hk9⟩
            have hf8 := (fam_two (D' := D2 (dk.step c) (dk.step c).flip) hf9 rfl (by show _ = (dk.step c).flip; rw [unhide E2]; rfl)).more (Y := fun x => x < w.heap.size) (fun x hx => .inl (.inl hx))
            have hB8 := (unhide HBR).trans (hk9.below (fun x hx => .inl hx))
            clear hf9 hk9
            have hX0 : ∀ x, x < w.heap.size → x < w8.heap.size := fun x hx => Nat.lt_of_lt_of_le hx hB8.size
            have KU := hide (fam_used _ 2 _ _ 0 (by decide) w.heap.size rfl w8 hf8)
            have KR := hide (fam_rused _ _ _ (dk.step c) w1.heap.size w8 rfl rfl hf8)
            have HF8 := hide hf8
            have HB8 := hide hB8
            clear hf8 hB8 hX0
            go_wp2_with fail
            refine (unhide KU).mono ?_
            clear KU
            rintro e w' ⟨rfl, rfl⟩
            rw [show (D2 (dk.step c) (dk.step c).flip 0).used = (dk.step c).used from rfl]
            generalize (dk.step c).used = us at *
            go_wp2_with fail
            refine (unhide KR).mono ?_
            clear KR
            rintro e w9 ⟨rfl, m9, rfl⟩
            have HF9 := hide ((unhide HF8).call (Joins.below_draws _ _ m9))
            have HB9 := hide ((unhide HB8).trans (Joins.below_draws _ _ m9))
            generalize w8.drewN m9 = w9 at *
            clear HF8 HB8
            go_wp2_with fail
            go_loopw [13] (fun i wr => ∃ z : Int, -1 ≤ z ∧ z ≤ 4 ∧ i = .int .i64 z ∧ Fam (fun x => x < w.heap.size) 2 wr (G2 w.heap.size w1.heap.size) (D2 (dk.step c) (dk.step c).flip) ∧ Below w.heap.size w wr) (fun i _ => (4 - intOf i).toNat)
            case atStart => exact ⟨-1, by omega, by omega, rfl, unhide HF9, unhide HB9⟩
            case round =>
              obtain ⟨z, hz1, hz2, rfl, hfz, hbz⟩ := hrel
              by_cases hz3 : z ≤ 3
              · by_cases hbad : (dk.step c).on = false ∨ ¬ inF z
                · have K1 := hide (fam_readbad _ 2 _ _ 0 (by decide) w.heap.size rfl z wr hfz hbad)
                  have K2 := hide (fam_rreadbad _ _ _ (dk.step c) w1.heap.size wr rfl rfl z hbad hfz)
                  have K3 := hide (equal_same (.slice none 0 0) (.slice none 0 0) [] wr (nil_byt _) (nil_byt _) (fun y hy => by cases hy))
                  have FIN := hide (And.intro hfz hbz)
                  clear hfz hbz hbad
                  go_wp2_with fail
                  refine (unhide K1).mono ?_
                  clear K1
                  rintro e w' ⟨rfl, rfl⟩
                  rw [show (D2 (dk.step c) (dk.step c).flip 0).checkF z = (dk.step c).checkF z from rfl]
                  generalize (dk.step c).checkF z = ck at *
                  go_wp2_with fail
                  refine (unhide K2).mono ?_
                  clear K2
                  rintro e w' ⟨rfl, rfl⟩
                  go_wp2_with fail
                  refine (unhide K3).mono ?_
                  clear K3
                  rintro e w' ⟨rfl, rfl⟩
                  go_wp2_with fail
                  go_loop [148] (fun i => i = .int .i64 0) (fun _ => 0)
                  case atStart => rfl
                  case round =>
                    obtain rfl := hrel
                    go_wp2
                    go_roundw
                    case rel => exact ⟨z + 1, by omega, by omega, by go_num, unhide FIN⟩
                    case measure => simp [intOf]; omega
                · have hon : (dk.step c).on = true := by cases hd : (dk.step c).on; exact absurd (.inl hd) hbad; rfl
                  have hin : inF z := Classical.byContradiction fun q => hbad (.inr q)
                  unfold inF at hin
                  obtain ⟨f, rfl⟩ := Int.eq_ofNat_of_zero_le hin.1
                  have hf3 : f < 3 := by omega
                  have K1 := hide (fam_read _ 2 _ _ 0 (by decide) w.heap.size rfl f wr hfz hon hf3)
                  have hnF : ((dk.step c).F f).length ≤ 16777216 := (hfz.ok (i := 0) (by decide)).len f hf3
                  have HON := hide hon
                  have HFZ := hide hfz
                  have HBZ := hide hbz
                  have H2 := hide (unhide HN256 f hf3)
                  clear hfz hbz hbad hon hin
                  go_wp2_with fail
                  refine (unhide K1).mono ?_
                  clear K1
                  rintro e wa ⟨va, rfl, na, hba⟩
                  replace na : New wr.heap.size wa va ((dk.step c).F f) := na
                  obtain ⟨ar, cr, hbr, K2⟩ := fam_rread _ _ _ (dk.step c) w1.heap.size wa rfl rfl f (unhide HON) hf3 ((unhide HFZ).call hba)
                  obtain ⟨a7, p7, rfl⟩ := na.shape
                  have K3 := hide (equal_same _ _ _ wa na.byt hbr (unhide H2))
                  have hU7a := U8.of_own na
                  have hltA := na.lt
                  have hfA : Fam (fun x => x < w.heap.size ∨ (wr.heap.size ≤ x ∧ x < wa.heap.size)) 2 wa (G2 w.heap.size w1.heap.size) (D2 (dk.step c) (dk.step c).flip) := ((unhide HFZ).more (fun x hx => by omega)).call hba
                  have hbA := (unhide HBZ).trans (hba.mono (unhide HBZ).size)
                  have hszA : w.heap.size ≤ wr.heap.size := (unhide HBZ).size
                  have HUA := hide hU7a
                  have HLA := hide hltA
                  have HFA := hide hfA
                  have HBA := hide hbA
                  have K2 := hide K2
                  clear na hbr hba hU7a hltA hfA hbA HFZ HBZ
                  generalize wr.heap.size = wsz at *
                  generalize ((dk.step c).F f).length = nF at *
                  go_wp2_with fail
                  refine (unhide K2).mono ?_
                  clear K2
                  rintro e w' ⟨rfl, rfl⟩
                  go_wp2_with fail
                  refine (unhide K3).mono ?_
                  clear K3
                  rintro e w' ⟨rfl, rfl⟩
                  go_wp2_with fail
                  go_loopw [18, 148] (fun _ i wr => ∃ q : Nat, q ≤ nF ∧ i = .int .i64 q ∧ U8 wr (.slice a7 nF p7) nF ∧ Only (fun x => (Value.slice a7 nF p7).ownBlock = some x) wa wr) (fun _ i _ => nF - (intOf i).toNat)
                  case atStart => exact ⟨0, by omega, rfl, unhide HUA, Only.refl _ _⟩
                  case round =>
                    obtain ⟨q, hq, rfl, hU, hO⟩ := hrel
                    by_cases hqn : q < nF
                    · rcases id hU with ⟨_, h0⟩ | ⟨gb, cp, e, hj⟩
                      · omega
                      injection e with e1 e2 e3
                      subst e1 e3
                      obtain ⟨⟨y, hy⟩, hz⟩ := hj q hqn
                      have j1 : (q : Int) < (nF : Int) := by omega
                      have j0 : (0 : Int) ≤ (q : Int) := by omega
                      have HU := hide hU
                      have HO := hide hO
                      clear hj hU hO
                      go_wp2
                      go_roundw
                      case rel => exact ⟨q + 1, by omega, by go_num, (unhide HU).set _, (unhide HO).set gb q _ rfl⟩
                      case measure => simp [intOf]; omega
                    · have hfB := ((unhide HFA).keepX hO (fun x hx => .inr (unhide HLA x hx))).more (Y := fun x => x < w.heap.size) (fun x hx => .inl (.inl hx))
                      have hbB : Below w.heap.size w wr := (unhide HBA).trans (hO.below (unhide HBA).size (fun x hx => by have := (unhide HLA x hx).1; omega))
                      have FIN := hide (And.intro hfB hbB)
                      clear hfB hbB hU hO
                      go_wp2
                      go_roundw
                      case rel => exact ⟨(f : Int) + 1, by omega, by omega, by go_num, unhide FIN⟩
                      case measure => simp [intOf]; omega
              · have hz4 : z = 4 := by omega
                subst hz4
                have FIN := hide (And.intro hfz hbz)
                clear hfz hbz
                go_wp2
                go_roundw
                case rel => exact ⟨k + 1, by omega, by go_num, by rw [unhide hrun]; exact (unhide FIN).1, (unhide FIN).2⟩
                case measure => simp [intOf]; omega
          by_cases q6 : kd = 6
          · subst q6
            have e1 : dk.doE c.op c.file c.n c.b = 0 := by unfold DS.doE kind; rw [hkd]; rfl
            have e2 : dk.step c = { dk with on := true } := by unfold DS.step DS.doD kind; rw [hkd]; rfl
            obtain ⟨⟨bo, x4⟩, x5, hf9, hk9⟩ := fam_rstart _ _ _ dk w1.heap.size wr rfl rfl hf8 hX8
            have hf8' := (fam_two (D' := D2 (dk.step c) (dk.step c).flip) hf9 rfl (by show _ = (dk.step c).flip; rw [e2]; rfl)).more (Y := fun x => x < w.heap.size) (fun x hx => .inl (.inl hx))
            have hB8' := hBr.trans (hk9.below (fun x hx => .inl hx))
            obtain ⟨w8, hw8⟩ : ∃ w8, wr.setCell ⟨w1.heap.size, 4, none⟩ (.bool false) = w8 := ⟨_, rfl⟩
            rw [hw8] at hf8' hB8'
            have HW8 := hide hw8
            rw [e1] at hde
            clear hf9 hk9 hf8 hX8 hBr e1 e2 hw8
            subst hde
            have HFX := hide hf8'
            have HBX := hide hB8'
            clear hf8' hB8'
            go_wp2_with fail
            rw [unhide HW8]
            clear HW8
            have hf8 := unhide HFX
            have hB8 := unhide HBX
            have hX0 : ∀ x, x < w.heap.size → x < w8.heap.size := fun x hx => Nat.lt_of_lt_of_le hx hB8.size
            have KU := hide (fam_used _ 2 _ _ 0 (by decide) w.heap.size rfl w8 hf8)
            have KR := hide (fam_rused _ _ _ (dk.step c) w1.heap.size w8 rfl rfl hf8)
            have HF8 := hide hf8
            have HB8 := hide hB8
            clear hf8 hB8 hX0
            refine (unhide KU).mono ?_
            clear KU
            rintro e w' ⟨rfl, rfl⟩
            rw [show (D2 (dk.step c) (dk.step c).flip 0).used = (dk.step c).used from rfl]
            generalize (dk.step c).used = us at *
            go_wp2_with fail
            refine (unhide KR).mono ?_
            clear KR
            rintro e w9 ⟨rfl, m9, rfl⟩
            have HF9 := hide ((unhide HF8).call (Joins.below_draws _ _ m9))
            have HB9 := hide ((unhide HB8).trans (Joins.below_draws _ _ m9))
            generalize w8.drewN m9 = w9 at *
            clear HF8 HB8
            go_wp2_with fail
            go_loopw [13] (fun i wr => ∃ z : Int, -1 ≤ z ∧ z ≤ 4 ∧ i = .int .i64 z ∧ Fam (fun x => x < w.heap.size) 2 wr (G2 w.heap.size w1.heap.size) (D2 (dk.step c) (dk.step c).flip) ∧ Below w.heap.size w wr) (fun i _ => (4 - intOf i).toNat)
            case atStart => exact ⟨-1, by omega, by omega, rfl, unhide HF9, unhide HB9⟩
            case round =>
              obtain ⟨z, hz1, hz2, rfl, hfz, hbz⟩ := hrel
              by_cases hz3 : z ≤ 3
              · by_cases hbad : (dk.step c).on = false ∨ ¬ inF z
                · have K1 := hide (fam_readbad _ 2 _ _ 0 (by decide) w.heap.size rfl z wr hfz hbad)
                  have K2 := hide (fam_rreadbad _ _ _ (dk.step c) w1.heap.size wr rfl rfl z hbad hfz)
                  have K3 := hide (equal_same (.slice none 0 0) (.slice none 0 0) [] wr (nil_byt _) (nil_byt _) (fun y hy => by cases hy))
                  have FIN := hide (And.intro hfz hbz)
                  clear hfz hbz hbad
                  go_wp2_with fail
                  refine (unhide K1).mono ?_
                  clear K1
                  rintro e w' ⟨rfl, rfl⟩
                  rw [show (D2 (dk.step c) (dk.step c).flip 0).checkF z = (dk.step c).checkF z from rfl]
                  generalize (dk.step c).checkF z = ck at *
                  go_wp2_with fail
                  refine (unhide K2).mono ?_
                  clear K2
                  rintro e w' ⟨rfl, rfl⟩
                  go_wp2_with fail
                  refine (unhide K3).mono ?_
                  clear K3
                  rintro e w' ⟨rfl, rfl⟩
                  go_wp2_with fail
                  go_loop [148] (fun i => i = .int .i64 0) (fun _ => 0)
                  case atStart => rfl
                  case round =>
                    obtain rfl := hrel
                    go_wp2
                    go_roundw
                    case rel => exact ⟨z + 1, by omega, by omega, by go_num, unhide FIN⟩
                    case measure => simp [intOf]; omega
                · have hon : (dk.step c).on = true := by cases hd : (dk.step c).on; exact absurd (.inl hd) hbad; rfl
                  have hin : inF z := Classical.byContradiction fun q => hbad (.inr q)
                  unfold inF at hin
                  obtain ⟨f, rfl⟩ := Int.eq_ofNat_of_zero_le hin.1
                  have hf3 : f < 3 := by omega
                  have K1 := hide (fam_read _ 2 _ _ 0 (by decide) w.heap.size rfl f wr hfz hon hf3)
                  have hnF : ((dk.step c).F f).length ≤ 16777216 := (hfz.ok (i := 0) (by decide)).len f hf3
                  have HON := hide hon
                  have HFZ := hide hfz
                  have HBZ := hide hbz
                  have H2 := hide (unhide HN256 f hf3)
                  clear hfz hbz hbad hon hin
                  go_wp2_with fail
                  refine (unhide K1).mono ?_
                  clear K1
                  rintro e wa ⟨va, rfl, na, hba⟩
                  replace na : New wr.heap.size wa va ((dk.step c).F f) := na
                  obtain ⟨ar, cr, hbr, K2⟩ := fam_rread _ _ _ (dk.step c) w1.heap.size wa rfl rfl f (unhide HON) hf3 ((unhide HFZ).call hba)
                  obtain ⟨a7, p7, rfl⟩ := na.shape
                  have K3 := hide (equal_same _ _ _ wa na.byt hbr (unhide H2))
                  have hU7a := U8.of_own na
                  have hltA := na.lt
                  have hfA : Fam (fun x => x < w.heap.size ∨ (wr.heap.size ≤ x ∧ x < wa.heap.size)) 2 wa (G2 w.heap.size w1.heap.size) (D2 (dk.step c) (dk.step c).flip) := ((unhide HFZ).more (fun x hx => by omega)).call hba
                  have hbA := (unhide HBZ).trans (hba.mono (unhide HBZ).size)
                  have hszA : w.heap.size ≤ wr.heap.size := (unhide HBZ).size
                  have HUA := hide hU7a
                  have HLA := hide hltA
                  have HFA := hide hfA
                  have HBA := hide hbA
                  have K2 := hide K2
                  clear na hbr hba hU7a hltA hfA hbA HFZ HBZ
                  generalize wr.heap.size = wsz at *
                  generalize ((dk.step c).F f).length = nF at *
                  go_wp2_with fail
                  refine (unhide K2).mono ?_
                  clear K2
                  rintro e w' ⟨rfl, rfl⟩
                  go_wp2_with fail
                  refine (unhide K3).mono ?_
                  clear K3
                  rintro e w' ⟨rfl, rfl⟩
                  go_wp2_with fail
                  go_loopw [18, 148] (fun _ i wr => ∃ q : Nat, q ≤ nF ∧ i = .int .i64 q ∧ U8 wr (.slice a7 nF p7) nF ∧ Only (fun x => (Value.slice a7 nF p7).ownBlock = some x) wa wr) (fun _ i _ => nF - (intOf i).toNat)
                  case atStart => exact ⟨0, by omega, rfl, unhide HUA, Only.refl _ _⟩
                  case round =>
                    obtain ⟨q, hq, rfl, hU, hO⟩ := hrel
                    by_cases hqn : q < nF
                    · rcases id hU with ⟨_, h0⟩ | ⟨gb, cp, e, hj⟩
                      · omega
                      injection e with e1 e2 e3
                      subst e1 e3
                      obtain ⟨⟨y, hy⟩, hz⟩ := hj q hqn
                      have j1 : (q : Int) < (nF : Int) := by omega
                      have j0 : (0 : Int) ≤ (q : Int) := by omega
                      have HU := hide hU
                      have HO := hide hO
                      clear hj hU hO
                      go_wp2
                      go_roundw
                      case rel => exact ⟨q + 1, by omega, by go_num, (unhide HU).set _, (unhide HO).set gb q _ rfl⟩
                      case measure => simp [intOf]; omega
                    · have hfB := ((unhide HFA).keepX hO (fun x hx => .inr (unhide HLA x hx))).more (Y := fun x => x < w.heap.size) (fun x hx => .inl (.inl hx))
                      have hbB : Below w.heap.size w wr := (unhide HBA).trans (hO.below (unhide HBA).size (fun x hx => by have := (unhide HLA x hx).1; omega))
                      have FIN := hide (And.intro hfB hbB)
                      clear hfB hbB hU hO
                      go_wp2
                      go_roundw
                      case rel => exact ⟨(f : Int) + 1, by omega, by omega, by go_num, unhide FIN⟩
                      case measure => simp [intOf]; omega
              · have hz4 : z = 4 := by omega
                subst hz4
                have FIN := hide (And.intro hfz hbz)
                clear hfz hbz
                go_wp2
                go_roundw
                case rel => exact ⟨k + 1, by omega, by go_num, by rw [unhide hrun]; exact (unhide FIN).1, (unhide FIN).2⟩
                case measure => simp [intOf]; omega
          by_cases q7 : kd = 7
          · subst q7
            have e1 : dk.doE c.op c.file c.n c.b = dk.armE c.n := by unfold DS.doE kind; rw [hkd]; rfl
            have e2 : dk.step c = dk.armD c.n := by unfold DS.step DS.doD kind; rw [hkd]; rfl
            have KX := hide (fam_rarm _ _ _ dk w1.heap.size wr rfl rfl c.n (unhide HOK0).n hf8 hX8)
            rw [← e1, hde] at KX
            have HX := hide hX8
            have HBR := hide hBr
            have E2 := hide e2
            clear hf8 hX8 hBr e1 e2
            go_wp2_with fail
            refine (unhide KX).mono ?_
            clear KX
            rintro e w8 ⟨rfl, hf9, hk9⟩
            have hf8 := (fam_two (D' := D2 (dk.step c) (dk.step c).flip) hf9 rfl (by show _ = (dk.step c).flip; rw [unhide E2]; rfl)).more (Y := fun x => x < w.heap.size) (fun x hx => .inl (.inl hx))
            have hB8 := (unhide HBR).trans (hk9.below (fun x hx => .inl hx))
            clear hf9 hk9
            have hX0 : ∀ x, x < w.heap.size → x < w8.heap.size := fun x hx => Nat.lt_of_lt_of_le hx hB8.size
            have KU := hide (fam_used _ 2 _ _ 0 (by decide) w.heap.size rfl w8 hf8)
            have KR := hide (fam_rused _ _ _ (dk.step c) w1.heap.size w8 rfl rfl hf8)
            have HF8 := hide hf8
            have HB8 := hide hB8
            clear hf8 hB8 hX0
            go_wp2_with fail
            refine (unhide KU).mono ?_
            clear KU
            rintro e w' ⟨rfl, rfl⟩
            rw [show (D2 (dk.step c) (dk.step c).flip 0).used = (dk.step c).used from rfl]
            generalize (dk.step c).used = us at *
            go_wp2_with fail
            refine (unhide KR).mono ?_
            clear KR
            rintro e w9 ⟨rfl, m9, rfl⟩
            have HF9 := hide ((unhide HF8).call (Joins.below_draws _ _ m9))
            have HB9 := hide ((unhide HB8).trans (Joins.below_draws _ _ m9))
            generalize w8.drewN m9 = w9 at *
            clear HF8 HB8
            go_wp2_with fail
            go_loopw [13] (fun i wr => ∃ z : Int, -1 ≤ z ∧ z ≤ 4 ∧ i = .int .i64 z ∧ Fam (fun x => x < w.heap.size) 2 wr (G2 w.heap.size w1.heap.size) (D2 (dk.step c) (dk.step c).flip) ∧ Below w.heap.size w wr) (fun i _ => (4 - intOf i).toNat)
            case atStart => exact ⟨-1, by omega, by omega, rfl, unhide HF9, unhide HB9⟩
            case round =>
              obtain ⟨z, hz1, hz2, rfl, hfz, hbz⟩ := hrel
              by_cases hz3 : z ≤ 3
              · by_cases hbad : (dk.step c).on = false ∨ ¬ inF z
                · have K1 := hide (fam_readbad _ 2 _ _ 0 (by decide) w.heap.size rfl z wr hfz hbad)
                  have K2 := hide (fam_rreadbad _ _ _ (dk.step c) w1.heap.size wr rfl rfl z hbad hfz)
                  have K3 := hide (equal_same (.slice none 0 0) (.slice none 0 0) [] wr (nil_byt _) (nil_byt _) (fun y hy => by cases hy))
                  have FIN := hide (And.intro hfz hbz)
                  clear hfz hbz hbad
                  go_wp2_with fail
                  refine (unhide K1).mono ?_
                  clear K1
                  rintro e w' ⟨rfl, rfl⟩
                  rw [show (D2 (dk.step c) (dk.step c).flip 0).checkF z = (dk.step c).checkF z from rfl]
                  generalize (dk.step c).checkF z = ck at *
                  go_wp2_with fail
                  refine (unhide K2).mono ?_
                  clear K2
                  rintro e w' ⟨rfl, rfl⟩
                  go_wp2_with fail
                  refine (unhide K3).mono ?_
                  clear K3
                  rintro e w' ⟨rfl, rfl⟩
                  go_wp2_with fail
                  go_loop [148] (fun i => i = .int .i64 0) (fun _ => 0)
                  case atStart => rfl
                  case round =>
                    obtain rfl := hrel
                    go_wp2
                    go_roundw
                    case rel => exact ⟨z + 1, by omega, by omega, by go_num, unhide FIN⟩
                    case measure => simp [intOf]; omega
                · have hon : (dk.step c).on = true := by cases hd : (dk.step c).on; exact absurd (.inl hd) hbad; rfl
                  have hin : inF z := Classical.byContradiction fun q => hbad (.inr q)
                  unfold inF at hin
                  obtain ⟨f, rfl⟩ := Int.eq_ofNat_of_zero_le hin.1
                  have hf3 : f < 3 := by omega
                  have K1 := hide (fam_read _ 2 _ _ 0 (by decide) w.heap.size rfl f wr hfz hon hf3)
                  have hnF : ((dk.step c).F f).length ≤ 16777216 := (hfz.ok (i := 0) (by decide)).len f hf3
                  have HON := hide hon
                  have HFZ := hide hfz
                  have HBZ := hide hbz
                  have H2 := hide (unhide HN256 f hf3)
                  clear hfz hbz hbad hon hin
                  go_wp2_with fail
                  refine (unhide K1).mono ?_
                  clear K1
                  rintro e wa ⟨va, rfl, na, hba⟩
                  replace na : New wr.heap.size wa va ((dk.step c).F f) := na
                  obtain ⟨ar, cr, hbr, K2⟩ := fam_rread _ _ _ (dk.step c) w1.heap.size wa rfl rfl f (unhide HON) hf3 ((unhide HFZ).call hba)
                  obtain ⟨a7, p7, rfl⟩ := na.shape
                  have K3 := hide (equal_same _ _ _ wa na.byt hbr (unhide H2))
                  have hU7a := U8.of_own na
                  have hltA := na.lt
                  have hfA : Fam (fun x => x < w.heap.size ∨ (wr.heap.size ≤ x ∧ x < wa.heap.size)) 2 wa (G2 w.heap.size w1.heap.size) (D2 (dk.step c) (dk.step c).flip) := ((unhide HFZ).more (fun x hx => by omega)).call hba
                  have hbA := (unhide HBZ).trans (hba.mono (unhide HBZ).size)
                  have hszA : w.heap.size ≤ wr.heap.size := (unhide HBZ).size
                  have HUA := hide hU7a
                  have HLA := hide hltA
                  have HFA := hide hfA
                  have HBA := hide hbA
                  have K2 := hide K2
                  clear na hbr hba hU7a hltA hfA hbA HFZ HBZ
                  generalize wr.heap.size = wsz at *
                  generalize ((dk.step c).F f).length = nF at *
                  go_wp2_with fail
                  refine (unhide K2).mono ?_
                  clear K2
                  rintro e w' ⟨rfl, rfl⟩
                  go_wp2_with fail
                  refine (unhide K3).mono ?_
                  clear K3
                  rintro e w' ⟨rfl, rfl⟩
                  go_wp2_with fail
                  go_loopw [18, 148] (fun _ i wr => ∃ q : Nat, q ≤ nF ∧ i = .int .i64 q ∧ U8 wr (.slice a7 nF p7) nF ∧ Only (fun x => (Value.slice a7 nF p7).ownBlock = some x) wa wr) (fun _ i _ => nF - (intOf i).toNat)
                  case atStart => exact ⟨0, by omega, rfl, unhide HUA, Only.refl _ _⟩
                  case round =>
                    obtain ⟨q, hq, rfl, hU, hO⟩ := hrel
                    by_cases hqn : q < nF
                    · rcases id hU with ⟨_, h0⟩ | ⟨gb, cp, e, hj⟩
                      · omega
                      injection e with e1 e2 e3
                      subst e1 e3
                      obtain ⟨⟨y, hy⟩, hz⟩ := hj q hqn
                      have j1 : (q : Int) < (nF : Int) := by omega
                      have j0 : (0 : Int) ≤ (q : Int) := by omega
                      have HU := hide hU
                      have HO := hide hO
                      clear hj hU hO
                      go_wp2
                      go_roundw
                      case rel => exact ⟨q + 1, by omega, by go_num, (unhide HU).set _, (unhide HO).set gb q _ rfl⟩
                      case measure => simp [intOf]; omega
                    · have hfB := ((unhide HFA).keepX hO (fun x hx => .inr (unhide HLA x hx))).more (Y := fun x => x < w.heap.size) (fun x hx => .inl (.inl hx))
                      have hbB : Below w.heap.size w wr := (unhide HBA).trans (hO.below (unhide HBA).size (fun x hx => by have := (unhide HLA x hx).1; omega))
                      have FIN := hide (And.intro hfB hbB)
                      clear hfB hbB hU hO
                      go_wp2
                      go_roundw
                      case rel => exact ⟨(f : Int) + 1, by omega, by omega, by go_num, unhide FIN⟩
                      case measure => simp [intOf]; omega
              · have hz4 : z = 4 := by omega
                subst hz4
                have FIN := hide (And.intro hfz hbz)
                clear hfz hbz
                go_wp2
                go_roundw
                case rel => exact ⟨k + 1, by omega, by go_num, by rw [unhide hrun]; exact (unhide FIN).1, (unhide FIN).2⟩
                case measure => simp [intOf]; omega
          by_cases q8 : kd = 8
          · subst q8
            have e1 : dk.doE c.op c.file c.n c.b = dk.check := by unfold DS.doE kind; rw [hkd]; rfl
            have e2 : dk.step c = dk.disarmD := by unfold DS.step DS.doD kind; rw [hkd]; rfl
            have KX := hide (fam_rdisarm _ _ _ dk w1.heap.size wr rfl rfl hf8 hX8)
            rw [← e1, hde] at KX
            have HX := hide hX8
            have HBR := hide hBr
            have E2 := hide e2
            clear hf8 hX8 hBr e1 e2
            go_wp2_with fail
            refine (unhide KX).mono ?_
            clear KX
            rintro e w8 ⟨rfl, hf9, hk9⟩
            have hf8 := (fam_two (D' := D2 (dk.step c) (dk.step c).flip) hf9 rfl (by show _ = (dk.step c).flip; rw [unhide E2]; rfl)).more (Y := fun x => x < w.heap.size) (fun x hx => .inl (.inl hx))
            have hB8 := (unhide HBR).trans (hk9.below (fun x hx => .inl hx))
            clear hf9 hk9
            have hX0 : ∀ x, x < w.heap.size → x < w8.heap.size := fun x hx => Nat.lt_of_lt_of_le hx hB8.size
            have KU := hide (fam_used _ 2 _ _ 0 (by decide) w.heap.size rfl w8 hf8)
            have KR := hide (fam_rused _ _ _ (dk.step c) w1.heap.size w8 rfl rfl hf8)
            have HF8 := hide hf8
            have HB8 := hide hB8
            clear hf8 hB8 hX0
            go_wp2_with fail
            refine (unhide KU).mono ?_
            clear KU
            rintro e w' ⟨rfl, rfl⟩
            rw [show (D2 (dk.step c) (dk.step c).flip 0).used = (dk.step c).used from rfl]
            generalize (dk.step c).used = us at *
            go_wp2_with fail
            refine (unhide KR).mono ?_
            clear KR
            rintro e w9 ⟨rfl, m9, rfl⟩
            have HF9 := hide ((unhide HF8).call (Joins.below_draws _ _ m9))
            have HB9 := hide ((unhide HB8).trans (Joins.below_draws _ _ m9))
            generalize w8.drewN m9 = w9 at *
            clear HF8 HB8
            go_wp2_with fail
            go_loopw [13] (fun i wr => ∃ z : Int, -1 ≤ z ∧ z ≤ 4 ∧ i = .int .i64 z ∧ Fam (fun x => x < w.heap.size) 2 wr (G2 w.heap.size w1.heap.size) (D2 (dk.step c) (dk.step c).flip) ∧ Below w.heap.size w wr) (fun i _ => (4 - intOf i).toNat)
            case atStart => exact ⟨-1, by omega, by omega, rfl, unhide HF9, unhide HB9⟩
            case round =>
              obtain ⟨z, hz1, hz2, rfl, hfz, hbz⟩ := hrel
              by_cases hz3 : z ≤ 3
              · by_cases hbad : (dk.step c).on = false ∨ ¬ inF z
                · have K1 := hide (fam_readbad _ 2 _ _ 0 (by decide) w.heap.size rfl z wr hfz hbad)
                  have K2 := hide (fam_rreadbad _ _ _ (dk.step c) w1.heap.size wr rfl rfl z hbad hfz)
                  have K3 := hide (equal_same (.slice none 0 0) (.slice none 0 0) [] wr (nil_byt _) (nil_byt _) (fun y hy => by cases hy))
                  have FIN := hide (And.intro hfz hbz)
                  clear hfz hbz hbad
                  go_wp2_with fail
                  refine (unhide K1).mono ?_
                  clear K1
                  rintro e w' ⟨rfl, rfl⟩
                  rw [show (D2 (dk.step c) (dk.step c).flip 0).checkF z = (dk.step c).checkF z from rfl]
                  generalize (dk.step c).checkF z = ck at *
                  go_wp2_with fail
                  refine (unhide K2).mono ?_
                  clear K2
                  rintro e w' ⟨rfl, rfl⟩
                  go_wp2_with fail
                  refine (unhide K3).mono ?_
                  clear K3
                  rintro e w' ⟨rfl, rfl⟩
                  go_wp2_with fail
                  go_loop [148] (fun i => i = .int .i64 0) (fun _ => 0)
                  case atStart => rfl
                  case round =>
                    obtain rfl := hrel
                    go_wp2
                    go_roundw
                    case rel => exact ⟨z + 1, by omega, by omega, by go_num, unhide FIN⟩
                    case measure => simp [intOf]; omega
                · have hon : (dk.step c).on = true := by cases hd : (dk.step c).on; exact absurd (.inl hd) hbad; rfl
                  have hin : inF z := Classical.byContradiction fun q => hbad (.inr q)
                  unfold inF at hin
                  obtain ⟨f, rfl⟩ := Int.eq_ofNat_of_zero_le hin.1
                  have hf3 : f < 3 := by omega
                  have K1 := hide (fam_read _ 2 _ _ 0 (by decide) w.heap.size rfl f wr hfz hon hf3)
                  have hnF : ((dk.step c).F f).length ≤ 16777216 := (hfz.ok (i := 0) (by decide)).len f hf3
                  have HON := hide hon
                  have HFZ := hide hfz
                  have HBZ := hide hbz
                  have H2 := hide (unhide HN256 f hf3)
                  clear hfz hbz hbad hon hin
                  go_wp2_with fail
                  refine (unhide K1).mono ?_
                  clear K1
                  rintro e wa ⟨va, rfl, na, hba⟩
                  replace na : New wr.heap.size wa va ((dk.step c).F f) := na
                  obtain ⟨ar, cr, hbr, K2⟩ := fam_rread _ _ _ (dk.step c) w1.heap.size wa rfl rfl f (unhide HON) hf3 ((unhide HFZ).call hba)
                  obtain ⟨a7, p7, rfl⟩ := na.shape
                  have K3 := hide (equal_same _ _ _ wa na.byt hbr (unhide H2))
                  have hU7a := U8.of_own na
                  have hltA := na.lt
                  have hfA : Fam (fun x => x < w.heap.size ∨ (wr.heap.size ≤ x ∧ x < wa.heap.size)) 2 wa (G2 w.heap.size w1.heap.size) (D2 (dk.step c) (dk.step c).flip) := ((unhide HFZ).more (fun x hx => by omega)).call hba
                  have hbA := (unhide HBZ).trans (hba.mono (unhide HBZ).size)
                  have hszA : w.heap.size ≤ wr.heap.size := (unhide HBZ).size
                  have HUA := hide hU7a
                  have HLA := hide hltA
                  have HFA := hide hfA
                  have HBA := hide hbA
                  have K2 := hide K2
                  clear na hbr hba hU7a hltA hfA hbA HFZ HBZ
                  generalize wr.heap.size = wsz at *
                  generalize ((dk.step c).F f).length = nF at *
                  go_wp2_with fail
                  refine (unhide K2).mono ?_
                  clear K2
                  rintro e w' ⟨rfl, rfl⟩
                  go_wp2_with fail
                  refine (unhide K3).mono ?_
                  clear K3
                  rintro e w' ⟨rfl, rfl⟩
                  go_wp2_with fail
                  go_loopw [18, 148] (fun _ i wr => ∃ q : Nat, q ≤ nF ∧ i = .int .i64 q ∧ U8 wr (.slice a7 nF p7) nF ∧ Only (fun x => (Value.slice a7 nF p7).ownBlock = some x) wa wr) (fun _ i _ => nF - (intOf i).toNat)
                  case atStart => exact ⟨0, by omega, rfl, unhide HUA, Only.refl _ _⟩
                  case round =>
                    obtain ⟨q, hq, rfl, hU, hO⟩ := hrel
                    by_cases hqn : q < nF
                    · rcases id hU with ⟨_, h0⟩ | ⟨gb, cp, e, hj⟩
                      · omega
                      injection e with e1 e2 e3
                      subst e1 e3
                      obtain ⟨⟨y, hy⟩, hz⟩ := hj q hqn
                      have j1 : (q : Int) < (nF : Int) := by omega
                      have j0 : (0 : Int) ≤ (q : Int) := by omega
                      have HU := hide hU
                      have HO := hide hO
                      clear hj hU hO
                      go_wp2
                      go_roundw
                      case rel => exact ⟨q + 1, by omega, by go_num, (unhide HU).set _, (unhide HO).set gb q _ rfl⟩
                      case measure => simp [intOf]; omega
                    · have hfB := ((unhide HFA).keepX hO (fun x hx => .inr (unhide HLA x hx))).more (Y := fun x => x < w.heap.size) (fun x hx => .inl (.inl hx))
                      have hbB : Below w.heap.size w wr := (unhide HBA).trans (hO.below (unhide HBA).size (fun x hx => by have := (unhide HLA x hx).1; omega))
                      have FIN := hide (And.intro hfB hbB)
                      clear hfB hbB hU hO
                      go_wp2
                      go_roundw
                      case rel => exact ⟨(f : Int) + 1, by omega, by omega, by go_num, unhide FIN⟩
                      case measure => simp [intOf]; omega
              · have hz4 : z = 4 := by omega
                subst hz4
                have FIN := hide (And.intro hfz hbz)
                clear hfz hbz
                go_wp2
                go_roundw
                case rel => exact ⟨k + 1, by omega, by go_num, by rw [unhide hrun]; exact (unhide FIN).1, (unhide FIN).2⟩
                case measure => simp [intOf]; omega
          have e1 : dk.doE c.op c.file c.n c.b = dk.appE c.file c.b.length := by unfold DS.doE kind; rw [hkd]; simp only [q4, q5, q6, q7, q8, if_false]
          have e2 : dk.step c = dk.appD c.file c.b := by unfold DS.step DS.doD kind; rw [hkd]; simp only [q4, q5, q6, q7, q8, if_false]
          have KX := fam_rappend _ _ _ dk w1.heap.size wr rfl rfl c.file c.v c.b ((unhide HOK0).byt.call hBr) (by omega) (fun hl => byt_far (unhide HOK0).byt hw12 hl) hf8 hX8
          rw [unhide HV] at KX
          have KX := hide KX
          rw [← e1, hde] at KX
          have HX := hide hX8
          have HBR := hide hBr
          have E2 := hide e2
          clear hf8 hX8 hBr e1 e2
          go_wp2_with fail
          refine (unhide KX).mono ?_
          clear KX
          rintro e w8 ⟨rfl, hf9, hk9⟩
          have hf8 := (fam_two (D' := D2 (dk.step c) (dk.step c).flip) hf9 rfl (by show _ = (dk.step c).flip; rw [unhide E2]; rfl)).more (Y := fun x => x < w.heap.size) (fun x hx => .inl (.inl hx))
          have hB8 := (unhide HBR).trans (hk9.below (fun x hx => .inl hx))
          clear hf9 hk9
          have hX0 : ∀ x, x < w.heap.size → x < w8.heap.size := fun x hx => Nat.lt_of_lt_of_le hx hB8.size
          have KU := hide (fam_used _ 2 _ _ 0 (by decide) w.heap.size rfl w8 hf8)
          have KR := hide (fam_rused _ _ _ (dk.step c) w1.heap.size w8 rfl rfl hf8)
          have HF8 := hide hf8
          have HB8 := hide hB8
          clear hf8 hB8 hX0
          go_wp2_with fail
          refine (unhide KU).mono ?_
          clear KU
          rintro e w' ⟨rfl, rfl⟩
          rw [show (D2 (dk.step c) (dk.step c).flip 0).used = (dk.step c).used from rfl]
          generalize (dk.step c).used = us at *
          go_wp2_with fail
          refine (unhide KR).mono ?_
          clear KR
          rintro e w9 ⟨rfl, m9, rfl⟩
          have HF9 := hide ((unhide HF8).call (Joins.below_draws _ _ m9))
          have HB9 := hide ((unhide HB8).trans (Joins.below_draws _ _ m9))
          generalize w8.drewN m9 = w9 at *
          clear HF8 HB8
          go_wp2_with fail
          go_loopw [13] (fun i wr => ∃ z : Int, -1 ≤ z ∧ z ≤ 4 ∧ i = .int .i64 z ∧ Fam (fun x => x < w.heap.size) 2 wr (G2 w.heap.size w1.heap.size) (D2 (dk.step c) (dk.step c).flip) ∧ Below w.heap.size w wr) (fun i _ => (4 - intOf i).toNat)
          case atStart => exact ⟨-1, by omega, by omega, rfl, unhide HF9, unhide HB9⟩
          case round =>
            obtain ⟨z, hz1, hz2, rfl, hfz, hbz⟩ := hrel
            by_cases hz3 : z ≤ 3
            · by_cases hbad : (dk.step c).on = false ∨ ¬ inF z
              · have K1 := hide (fam_readbad _ 2 _ _ 0 (by decide) w.heap.size rfl z wr hfz hbad)
                have K2 := hide (fam_rreadbad _ _ _ (dk.step c) w1.heap.size wr rfl rfl z hbad hfz)
                have K3 := hide (equal_same (.slice none 0 0) (.slice none 0 0) [] wr (nil_byt _) (nil_byt _) (fun y hy => by cases hy))
                have FIN := hide (And.intro hfz hbz)
                clear hfz hbz hbad
                go_wp2_with fail
                refine (unhide K1).mono ?_
                clear K1
                rintro e w' ⟨rfl, rfl⟩
                rw [show (D2 (dk.step c) (dk.step c).flip 0).checkF z = (dk.step c).checkF z from rfl]
                generalize (dk.step c).checkF z = ck at *
                go_wp2_with fail
                refine (unhide K2).mono ?_
                clear K2
                rintro e w' ⟨rfl, rfl⟩
                go_wp2_with fail
                refine (unhide K3).mono ?_
                clear K3
                rintro e w' ⟨rfl, rfl⟩
                go_wp2_with fail
                go_loop [148] (fun i => i = .int .i64 0) (fun _ => 0)
                case atStart => rfl
                case round =>
                  obtain rfl := hrel
                  go_wp2
                  go_roundw
                  case rel => exact ⟨z + 1, by omega, by omega, by go_num, unhide FIN⟩
                  case measure => simp [intOf]; omega
              · have hon : (dk.step c).on = true := by cases hd : (dk.step c).on; exact absurd (.inl hd) hbad; rfl
                have hin : inF z := Classical.byContradiction fun q => hbad (.inr q)
                unfold inF at hin
                obtain ⟨f, rfl⟩ := Int.eq_ofNat_of_zero_le hin.1
                have hf3 : f < 3 := by omega
                have K1 := hide (fam_read _ 2 _ _ 0 (by decide) w.heap.size rfl f wr hfz hon hf3)
                have hnF : ((dk.step c).F f).length ≤ 16777216 := (hfz.ok (i := 0) (by decide)).len f hf3
                have HON := hide hon
                have HFZ := hide hfz
                have HBZ := hide hbz
                have H2 := hide (unhide HN256 f hf3)
                clear hfz hbz hbad hon hin
                go_wp2_with fail
                refine (unhide K1).mono ?_
                clear K1
                rintro e wa ⟨va, rfl, na, hba⟩
                replace na : New wr.heap.size wa va ((dk.step c).F f) := na
                obtain ⟨ar, cr, hbr, K2⟩ := fam_rread _ _ _ (dk.step c) w1.heap.size wa rfl rfl f (unhide HON) hf3 ((unhide HFZ).call hba)
                obtain ⟨a7, p7, rfl⟩ := na.shape
                have K3 := hide (equal_same _ _ _ wa na.byt hbr (unhide H2))
                have hU7a := U8.of_own na
                have hltA := na.lt
                have hfA : Fam (fun x => x < w.heap.size ∨ (wr.heap.size ≤ x ∧ x < wa.heap.size)) 2 wa (G2 w.heap.size w1.heap.size) (D2 (dk.step c) (dk.step c).flip) := ((unhide HFZ).more (fun x hx => by omega)).call hba
                have hbA := (unhide HBZ).trans (hba.mono (unhide HBZ).size)
                have hszA : w.heap.size ≤ wr.heap.size := (unhide HBZ).size
                have HUA := hide hU7a
                have HLA := hide hltA
                have HFA := hide hfA
                have HBA := hide hbA
                have K2 := hide K2
                clear na hbr hba hU7a hltA hfA hbA HFZ HBZ
                generalize wr.heap.size = wsz at *
                generalize ((dk.step c).F f).length = nF at *
                go_wp2_with fail
                refine (unhide K2).mono ?_
                clear K2
                rintro e w' ⟨rfl, rfl⟩
                go_wp2_with fail
                refine (unhide K3).mono ?_
                clear K3
                rintro e w' ⟨rfl, rfl⟩
                go_wp2_with fail
                go_loopw [18, 148] (fun _ i wr => ∃ q : Nat, q ≤ nF ∧ i = .int .i64 q ∧ U8 wr (.slice a7 nF p7) nF ∧ Only (fun x => (Value.slice a7 nF p7).ownBlock = some x) wa wr) (fun _ i _ => nF - (intOf i).toNat)
                case atStart => exact ⟨0, by omega, rfl, unhide HUA, Only.refl _ _⟩
                case round =>
                  obtain ⟨q, hq, rfl, hU, hO⟩ := hrel
                  by_cases hqn : q < nF
                  · rcases id hU with ⟨_, h0⟩ | ⟨gb, cp, e, hj⟩
                    · omega
                    injection e with e1 e2 e3
                    subst e1 e3
                    obtain ⟨⟨y, hy⟩, hz⟩ := hj q hqn
                    have j1 : (q : Int) < (nF : Int) := by omega
                    have j0 : (0 : Int) ≤ (q : Int) := by omega
                    have HU := hide hU
                    have HO := hide hO
                    clear hj hU hO
                    go_wp2
                    go_roundw
                    case rel => exact ⟨q + 1, by omega, by go_num, (unhide HU).set _, (unhide HO).set gb q _ rfl⟩
                    case measure => simp [intOf]; omega
                  · have hfB := ((unhide HFA).keepX hO (fun x hx => .inr (unhide HLA x hx))).more (Y := fun x => x < w.heap.size) (fun x hx => .inl (.inl hx))
                    have hbB : Below w.heap.size w wr := (unhide HBA).trans (hO.below (unhide HBA).size (fun x hx => by have := (unhide HLA x hx).1; omega))
                    have FIN := hide (And.intro hfB hbB)
                    clear hfB hbB hU hO
                    go_wp2
                    go_roundw
                    case rel => exact ⟨(f : Int) + 1, by omega, by omega, by go_num, unhide FIN⟩
                    case measure => simp [intOf]; omega
            · have hz4 : z = 4 := by omega
              subst hz4
              have FIN := hide (And.intro hfz hbz)
              clear hfz hbz
              go_wp2
              go_roundw
              case rel => exact ⟨k + 1, by omega, by go_num, by rw [unhide hrun]; exact (unhide FIN).1, (unhide FIN).2⟩
              case measure => simp [intOf]; omega
    · have hkn : k = nl := by omega
      go_wp2_with (go_at_call 12; refine (awake_any _).mono ?_; rintro e w' ⟨rfl, hb⟩)
      go_ret
      exact ⟨rfl, hbel.trans (hb.mono hbel.size)⟩
set_option maxRecDepth 100000 in
theorem lifted (os : Os) (started : os.Started) (H : Type) (enc : TypeId × Value → H) :
    ReturnsInHanded {} Try.checked os 3 .any (Rows.diskPlaysSpec.pre6 enc Try.prog Try.f3 Rows.diskPlaysRow.domain false) (Rows.diskPlaysSpec.post enc Try.prog Try.f3 false true false false) := by
  refine returnsInHanded_of_change (C := Try.checked) own started (by kernel_rfl) Try.func3
    (ChangeSpec.witness6 (enc := enc) (C := Try.checked) false ⟨#[], #[.int .i64 0, .slice none 0 0], []⟩ 8 (by kernel_rfl) (by kernel_rfl) (by kernel_rfl) (by kernel_rfl)) ?_
  intro W base args ds gs before hval0 hW hcnd _
  have hval : ∀ (j : Nat) t v, Try.f3.params[j]? = some t → args[j]? = some v → Value.okWide Try.prog W .any base t v := hval0
  have hW' := hW
  obtain ⟨p, q, hA0, hV, rfl, hfz, hnd⟩ := hW
  have hA : DataW.TrodAll enc Try.prog W 0 (fun _ => true) true Try.f3.params.toList args.toList ds p := hA0
  rw [Try.params3] at hA hval
  obtain ⟨v0, vs0, d0, ds0, p0, q0, hargs, rfl, rfl, h0, r0⟩ := trodAll_cons hA
  obtain ⟨v1, vs1, d1, ds1, p1, q1, rfl, rfl, rfl, h1, r1⟩ := trodAll_cons r0
  obtain ⟨rfl, rfl, rfl⟩ := trodAll_nil r1
  obtain rfl : args = #[v0, v1] := by cases args; simp_all
  obtain ⟨rfl, rfl⟩ := trodVars_none hV
  have lt0 : ∀ x ∈ p0, x.block < W.heap.size := by obtain ⟨m, hm⟩ := h0; exact DataW.trod_lt m _ _ _ hm
  have lt1 : ∀ x ∈ p1, x.block < W.heap.size := by obtain ⟨m, hm⟩ := h1; exact DataW.trod_lt m _ _ _ hm
  obtain ⟨room, rfl, -, -⟩ := open_i64 (hval 0 3 v0 rfl rfl) h0
  obtain ⟨a, L, cap, rfl, hc, hm, hL⟩ := open_dos (hval 1 22 v1 rfl rfl) h1
  clear hA0 hval0
  refine (walk room a L cap W hL hc hm).mono fun e W' ⟨he, bel⟩ => ?_
  subst he
  exact ⟨_, rfl, _, _, _, [], _, [], hW', trodAll_mk1 (shut_bool Try.underlying4 _), (trodAll_cons_mk (Below.trod laidOut (by kernel_rfl) (of_decide_eq_true (by kernel_rfl)) h0 bel lt0) (trodAll_cons_mk (Below.trod laidOut (by kernel_rfl) (of_decide_eq_true (by kernel_rfl)) h1 bel lt1) trodAll_mk0)), rfl, bel.frame _, fun h => by cases h⟩

theorem proved : Rows.DiskPlaysSaid :=
  OpenClaim.holds_of_wide 3 Try.f3 rfl rfl rfl rfl rfl rfl rfl ⟨rfl, rfl, rfl, rfl, rfl⟩ rfl rfl rfl rfl rfl (by kernel_rfl) Try.func3 (by kernel_rfl)
    (of_decide_eq_true (by kernel_rfl)) (by unfold Func.isWrapper; first | (rw [if_pos (by decide +kernel)]; kernel_rfl) | (rw [if_neg (by decide +kernel)]; exact ⟨rfl, rfl⟩))
    (fun os started H enc _ => lifted os started H enc)
#print axioms proved
end Go.Proofs.Ytadjgljimikodaa.plays
