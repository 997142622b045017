/- The table. -/
import Derived.Test.YtonabfpgdgnpnaaDoorDDr
namespace Go.Proofs.YtonabfpgdgnpnaaDoor
set_option linter.unusedVariables false
set_option linter.unusedSimpArgs false
open Go.ChangeShapes Go.WideShapes Go.ChangeAt Go.RowKit Go.Joins Go.Deep

theorem info95 : ∃ i, Tryd.prog.info? 95 = some i ∧ i.zero = some (.int .u16 0) ∧ i.size = 1 ∧ i.bytes = 2 := info_parts (by kernel_rfl)
/-- what stands in the table behind the places (u - 1, v) -/
def TbI (x y : List CP) (u v : Nat) (M : List Nat) : Prop := M.length = (x.length + 1) * (y.length + 1) ∧ ∀ i j, i ≤ x.length → j ≤ y.length → (i = x.length ∨ j = y.length ∨ u ≤ i ∨ (i + 1 = u ∧ v ≤ j)) → M[i * (y.length + 1) + j]? = some (lcs (x.drop i) (y.drop j))
theorem TbI.start (x y : List CP) : TbI x y x.length y.length (List.replicate ((x.length + 1) * (y.length + 1)) 0) := by
  refine ⟨by simp, fun i j hi hj h => ?_⟩
  rw [List.getElem?_replicate, if_pos (place_lt hi hj)]
  have : i = x.length ∨ j = y.length := by omega
  rcases this with rfl | rfl
  · rw [List.drop_length, lcs_nil_left]
  · rw [List.drop_length, lcs_nil_right]
theorem TbI.row {x y : List CP} {u : Nat} {M : List Nat} (h : TbI x y (u + 1) 0 M) : TbI x y u y.length M := by
  refine ⟨h.1, fun i j hi hj k => h.2 i j hi hj ?_⟩
  omega
theorem TbI.next {x y : List CP} {i j : Nat} {M : List Nat} (h : TbI x y (i + 1) (j + 1) M) (hi : i < x.length) (hj : j < y.length) : TbI x y (i + 1) j (M.set (i * (y.length + 1) + j) (bestN x y i j)) := by
  refine ⟨by rw [List.length_set]; exact h.1, fun i' j' hi' hj' k => ?_⟩
  by_cases e : i * (y.length + 1) + j = i' * (y.length + 1) + j'
  · obtain ⟨rfl, rfl⟩ := place_inj (by omega) hj' e
    rw [List.getElem?_set_self (by rw [h.1]; exact place_lt (by omega) (by omega))]
    rfl
  · rw [List.getElem?_set_ne e]
    refine h.2 i' j' hi' hj' ?_
    by_cases e1 : i' = i ∧ j' = j
    · obtain ⟨rfl, rfl⟩ := e1
      exact absurd rfl e
    · omega
theorem TbI.ends {x y : List CP} {M : List Nat} (h : TbI x y 0 y.length M) : TF x y M := fun i j hi hj => h.2 i j hi hj (by omega)
theorem TbI.three {x y : List CP} {i j : Nat} {M : List Nat} (h : TbI x y (i + 1) (j + 1) M) (hi : i < x.length) (hj : j < y.length) : M[(i + 1) * (y.length + 1) + (j + 1)]? = some (lcs (x.drop (i + 1)) (y.drop (j + 1))) ∧ M[(i + 1) * (y.length + 1) + j]? = some (lcs (x.drop (i + 1)) (y.drop j)) ∧ M[i * (y.length + 1) + (j + 1)]? = some (lcs (x.drop i) (y.drop (j + 1))) :=
  ⟨h.2 _ _ (by omega) (by omega) (by omega), h.2 _ _ (by omega) (by omega) (by omega), h.2 _ _ (by omega) (by omega) (by omega)⟩
/-- the table as it is being made: the struct in block gt, its numbers in block gm -/
structure TbW (w0 wr : World) (Ba Bb g0 gm gt : Nat) (va vb : Value) (x y : List CP) (u v P : Nat) (M : List Nat) : Prop where
  tb : Tb wr Ba Bb w0.heap.size va vb (.slice (some ⟨gm, 0, none⟩) P P) x y M
  row : RowAt wr gt 63 [va, vb, .slice (some ⟨gm, 0, none⟩) P P]
  res : RowAt wr g0 63 [.slice none 0 0, .slice none 0 0, .slice none 0 0]
  ti : TbI x y u v M
  bel : Below w0.heap.size w0 wr
  g0B : w0.heap.size ≤ g0
  gmB : w0.heap.size ≤ gm
  ne : g0 ≠ gt
theorem TbW.set {w0 wr w3 : World} {Ba Bb g0 gm gt : Nat} {va vb : Value} {x y : List CP} {i j P : Nat} {M : List Nat} (h : TbW w0 wr Ba Bb g0 gm gt va vb x y (i + 1) (j + 1) P M) (hb : Below wr.heap.size wr w3) (hi : i < x.length) (hj : j < y.length) : TbW w0 (w3.setCell ⟨gm, i * (y.length + 1) + j, none⟩ (.int .u16 (bestN x y i j : Int))) Ba Bb g0 gm gt va vb x y (i + 1) j P (M.set (i * (y.length + 1) + j) (bestN x y i j)) := by
  have ho : Only (· = gm) w3 (w3.setCell ⟨gm, i * (y.length + 1) + j, none⟩ (.int .u16 (bestN x y i j : Int))) := (Only.refl _ _).set gm _ _ rfl
  have t := h.tb.call hb
  have hl : M.length = P := by
    have h9 := t.m.2
    rcases h9 with ⟨e, _⟩ | ⟨g, c, cur, e, _⟩
    · cases e
    · injection e with _ e2 _; exact e2.symm
  have hlt : i * (y.length + 1) + j < M.length := by rw [t.len]; exact place_lt (by omega) (by omega)
  have hm0 : w3.ownsRow w0.heap.size 95 1 (.slice (some ⟨gm, 0, none⟩) P P) P (u16v M) := by
    have h9 := t.m
    rw [hl] at h9
    exact h9
  have hm := own_set hm0 (i * (y.length + 1) + j) (.int .u16 (bestN x y i j : Int)) (by rw [← hl]; exact hlt)
  rw [u16v_set] at hm
  have hrow := h.row.below hb h.row.lt
  have hres := h.res.below hb h.res.lt
  have hB := h.bel.trans (hb.mono h.bel.size)
  refine ⟨⟨own_only t.a ho (fun q hq hp => own_ne t.a t.m (by decide) q hq (by rw [hp]; rfl)), own_only t.b ho (fun q hq hp => own_ne t.b t.m (by decide) q hq (by rw [hp]; rfl)), by rw [List.length_set, hl]; exact hm, t.cx, t.cy, by rw [List.length_set]; exact t.len, t.nx, t.ny⟩, hrow.only ho (fun hp => tag_ne t.m hrow (by decide) (by rw [hp]; rfl)), hres.only ho (fun hp => tag_ne t.m hres (by decide) (by rw [hp]; rfl)), h.ti.next hi hj, hB.trans (ho.below hB.size (fun q hq => by rw [hq]; exact h.gmB)), h.g0B, h.gmB, h.ne⟩
theorem TbW.rowed {w0 wr : World} {Ba Bb g0 gm gt : Nat} {va vb : Value} {x y : List CP} {u P : Nat} {M : List Nat} (h : TbW w0 wr Ba Bb g0 gm gt va vb x y (u + 1) 0 P M) : TbW w0 wr Ba Bb g0 gm gt va vb x y u y.length P M := ⟨h.tb, h.row, h.res, h.ti.row, h.bel, h.g0B, h.gmB, h.ne⟩
theorem TbW.sees {w0 wr : World} {Ba Bb g0 gm gt : Nat} {va vb : Value} {x y : List CP} {u v P : Nat} {M : List Nat} (h : TbW w0 wr Ba Bb g0 gm gt va vb x y u v P M) : ∀ W, Below wr.heap.size wr W → W.cell? ⟨gt, 0, none⟩ = some va ∧ W.cell? ⟨gt, 1, none⟩ = some vb ∧ W.cell? ⟨gt, 2, none⟩ = some (.slice (some ⟨gm, 0, none⟩) P P) := fun W hW => ⟨kept hW (h.row.cell 0), kept hW (h.row.cell 1), kept hW (h.row.cell 2)⟩
theorem TbW.sees2 {w0 wr : World} {Ba Bb g0 gm gt : Nat} {va vb : Value} {x y : List CP} {u v P : Nat} {M : List Nat} (h : TbW w0 wr Ba Bb g0 gm gt va vb x y u v P M) (p : Nat) (z : Value) : ∀ W, Below wr.heap.size wr W → (W.setCell ⟨gm, p, none⟩ z).cell? ⟨gt, 0, none⟩ = some va ∧ (W.setCell ⟨gm, p, none⟩ z).cell? ⟨gt, 1, none⟩ = some vb ∧ (W.setCell ⟨gm, p, none⟩ z).cell? ⟨gt, 2, none⟩ = some (.slice (some ⟨gm, 0, none⟩) P P) := fun W hW => by
  have ho : Only (· = gm) W (W.setCell ⟨gm, p, none⟩ z) := (Only.refl _ _).set gm _ _ rfl
  have hr := (h.row.below hW h.row.lt).only ho (fun hp => tag_ne (h.tb.call hW).m (h.row.below hW h.row.lt) (by decide) (by rw [hp]; rfl))
  exact ⟨hr.cell 0, hr.cell 1, hr.cell 2⟩
theorem TbW.stores {w0 wr : World} {Ba Bb g0 gm gt : Nat} {va vb : Value} {x y : List CP} {u v P : Nat} {M : List Nat} (h : TbW w0 wr Ba Bb g0 gm gt va vb x y u v P M) {i j : Nat} (hi : i < x.length) (hj : j < y.length) : ∀ W, Below wr.heap.size wr W → W.frozen? ⟨gm, i * (y.length + 1) + j, none⟩ = false ∧ ∃ z, W.cell? ⟨gm, i * (y.length + 1) + j, none⟩ = some z := fun W hW => by
  have t := h.tb.call hW
  have hlt : i * (y.length + 1) + j < M.length := by rw [t.len]; exact place_lt (by omega) (by omega)
  refine ⟨?_, _, t.at_ (List.getElem?_eq_getElem hlt)⟩
  have hm := t.m
  have hl : M.length = P := by
    rcases hm.2 with ⟨e, _⟩ | ⟨g, c, cur, e, _⟩
    · cases e
    · injection e with _ e2 _; exact e2.symm
  rw [← hl] at hm
  exact own_fr hm _
def TabR (x y : List CP) (va vb : Value) (w : World) (r : Ending) (w' : World) : Prop := ∃ Ba Bb vm M, r = .returned (.agg #[va, vb, vm]) ∧ Tb w' Ba Bb w.heap.size va vb vm x y M ∧ TF x y M ∧ Below w.heap.size w w'
set_option maxRecDepth 100000 in
set_option maxHeartbeats 4000000 in
theorem table_any {w : World} {Ba Bb : Nat} {va vb : Value} {x y : List CP} (ha : w.ownsRow Ba 21 1 va x.length (rnv x)) (hb : w.ownsRow Bb 21 1 vb y.length (rnv y)) (hcx : Cps x) (hcy : Cps y) (hnx : x.length ≤ 1024) (hny : y.length ≤ 1024) :
    Calls Tryd.prog 35 #[va, vb] w fun r w' => TabR x y va vb w r w' := by
  obtain ⟨aa, ca, rfl, hca, hca2⟩ := own_sl ha
  obtain ⟨ab, cb, rfl, hcb, hcb2⟩ := own_sl hb
  have HA := hide ha
  have HB := hide hb
  have hps := place_small (i := x.length) (j := y.length) (m := y.length) (by omega) (by omega) hny
  obtain ⟨P, hP⟩ : ∃ z, (x.length + 1) * (y.length + 1) = z := ⟨_, rfl⟩
  have hPs : P ≤ 1100001 := by rw [← hP, Nat.add_mul]; omega
  have HP := hide hP
  have hmul : ((x.length : Int) + 1) * ((y.length : Int) + 1) = (P : Int) := by rw [← hP]; simp
  obtain ⟨w0, hw0⟩ : ∃ z, w.alloc (.cells #[.slice none 0 0, .slice none 0 0, .slice none 0 0] 63) = z := ⟨_, rfl⟩
  have r0 := RowAt.new w 63 [.slice none 0 0, .slice none 0 0, .slice none 0 0]
  have bA : Below w.heap.size w (w.alloc (.cells #[.slice none 0 0, .slice none 0 0, .slice none 0 0] 63)) := (Below.refl _ _).alloc (Nat.le_refl _) _
  have hsz : (w.alloc (.cells #[.slice none 0 0, .slice none 0 0, .slice none 0 0] 63)).heap.size = w.heap.size + 1 := size_alloc _ _
  rw [show (([.slice none 0 0, .slice none 0 0, .slice none 0 0] : List Value)).toArray = #[.slice none 0 0, .slice none 0 0, .slice none 0 0] from rfl] at r0
  rw [hw0] at r0 bA hsz
  obtain ⟨w1, hmk, hr1, hg1⟩ := run_make_full (P := Tryd.prog) w0 w0.heap.size 61 95 (Classical.choose info95) (.int .u16 0) 1 Tryd.underlying61 (Classical.choose_spec info95).1 (Classical.choose_spec info95).2.1 (Classical.choose_spec info95).2.2.1 .i64 .i64 P (by rw [(Classical.choose_spec info95).2.2.2]; omega) (by unfold maxLen; omega) (Nat.le_refl _)
  have hrow : w1.ownsRow w.heap.size 95 1 (.slice (some ⟨w0.heap.size, 0, none⟩) P P) P (u16v (List.replicate P 0)) := by
    rw [u16v_rep]
    have e : (madeCells (Value.int .u16 0).cells (P * 1)).toList = List.replicate P (.int .u16 0) := by
      refine List.eq_replicate_iff.2 ⟨by simp [madeCells], fun v hv => ?_⟩
      simp [madeCells, Value.cells, Nat.mod_one] at hv
      first | exact hv.symm | exact hv | (obtain ⟨_, hv⟩ := hv; exact hv.symm) | (obtain ⟨_, hv⟩ := hv; exact hv) | simp_all
    rw [e] at hr1
    exact own_base hr1 (by omega)
  have b1 : Below w0.heap.size w0 w1 := (grown_only hg1).below (Nat.le_refl _) (fun k hk => by cases hk)
  have bW : Below w.heap.size w w1 := bA.trans (b1.mono (by omega))
  have r1 := r0.below b1 (by omega)
  have hal : Below w1.heap.size w1 (w1.alloc (.cells #[.slice aa x.length ca, .slice ab y.length cb, .slice (some ⟨w0.heap.size, 0, none⟩) P P] 63)) := (Below.refl _ _).alloc (Nat.le_refl _) _
  have hwsz : w0.heap.size ≤ w1.heap.size := b1.size
  have HTW : Hid (TbW w (w1.alloc (.cells #[.slice aa x.length ca, .slice ab y.length cb, .slice (some ⟨w0.heap.size, 0, none⟩) P P] 63)) Ba Bb w.heap.size w0.heap.size w1.heap.size (.slice aa x.length ca) (.slice ab y.length cb) x y x.length y.length P (List.replicate P 0)) := hide ⟨⟨own_call (own_call ha bW) hal, own_call (own_call hb bW) hal, by
    have h9 := own_call hrow hal
    rw [List.length_replicate]
    exact h9, hcx, hcy, by rw [List.length_replicate, hP], hnx, hny⟩, RowAt.new w1 63 _, r1.below hal (by omega), by rw [← hP]; exact TbI.start x y, bW.trans (hal.mono bW.size), Nat.le_refl _, by omega, by omega⟩
  obtain ⟨n, hn⟩ : ∃ z, x.length = z := ⟨_, rfl⟩
  obtain ⟨m, hm⟩ : ∃ z, y.length = z := ⟨_, rfl⟩
  have HN := hide hn
  have HM := hide hm
  rw [hn, hm] at hmul
  rw [hn] at hca hnx HTW ⊢
  rw [hm] at hcb hny HTW ⊢
  obtain ⟨gm, hgm⟩ : ∃ z, w0.heap.size = z := ⟨_, rfl⟩
  rw [hgm] at hmk HTW
  have hPI : (P : Int) ≤ 1100001 := by omega
  clear ha hb hps hP r0 bA hsz hr1 hg1 hrow b1 bW r1 hal hwsz hn hm hgm hcx hcy
  subst hw0
  go_enter Tryd.func35, Tryd.ntmps35
  go_wp2_with fail
  obtain ⟨gt, hgt⟩ : ∃ z, w1.heap.size = z := ⟨_, rfl⟩
  obtain ⟨g0, hg0⟩ : ∃ z, w.heap.size = z := ⟨_, rfl⟩
  have HG0 := hide hg0
  rw [hgt] at HTW ⊢
  have HTW2 : Hid (TbW w (w1.alloc (.cells #[.slice aa n ca, .slice ab m cb, .slice (some ⟨gm, 0, none⟩) P P] 63)) Ba Bb g0 gm gt (.slice aa n ca) (.slice ab m cb) x y n m P (List.replicate P 0)) := hide (by rw [← hg0]; exact unhide HTW)
  have HTW := HTW2
  rw [hg0]
  clear hmk hgt hg0 HTW2
  go_loopw [6] (fun iv wr => ∃ (u : Nat) (M : List Nat), u ≤ n ∧ iv = .int .i64 ((u : Int) - 1) ∧ Hid (TbW w wr Ba Bb g0 gm gt (.slice aa n ca) (.slice ab m cb) x y u m P M)) (fun iv _ => (intOf iv + 1).toNat)
  case atStart => exact ⟨n, _, by omega, rfl, HTW⟩
  case round =>
    clear HTW
    obtain ⟨u, M, hu, rfl, HT⟩ := hrel
    by_cases hu0 : u = 0
    · have huI : ¬ (0 : Int) ≤ (u : Int) - 1 := by omega
      have HU0 := hide hu0
      clear hu0
      obtain ⟨q0, q1, q2⟩ := (unhide HT).sees _ (Below.refl _ _)
      have hR := (unhide HT).res
      have c0 : wr.cell? ⟨g0, 0, none⟩ = some (.slice none 0 0) := hR.cell 0
      have f0 : wr.frozen? ⟨g0, 0, none⟩ = false := hR.frozen 0
      have hR1 := hR.set 0 (.slice aa n ca)
      have c1 : (wr.setCell ⟨g0, 0, none⟩ (.slice aa n ca)).cell? ⟨g0, 1, none⟩ = some (.slice none 0 0) := hR1.cell 1
      have f1 : (wr.setCell ⟨g0, 0, none⟩ (.slice aa n ca)).frozen? ⟨g0, 1, none⟩ = false := hR1.frozen 1
      have hR2 := hR1.set 1 (.slice ab m cb)
      have c2 : ((wr.setCell ⟨g0, 0, none⟩ (.slice aa n ca)).setCell ⟨g0, 1, none⟩ (.slice ab m cb)).cell? ⟨g0, 2, none⟩ = some (.slice none 0 0) := hR2.cell 2
      have f2 : ((wr.setCell ⟨g0, 0, none⟩ (.slice aa n ca)).setCell ⟨g0, 1, none⟩ (.slice ab m cb)).frozen? ⟨g0, 2, none⟩ = false := hR2.frozen 2
      have hR3 : RowAt (((wr.setCell ⟨g0, 0, none⟩ (.slice aa n ca)).setCell ⟨g0, 1, none⟩ (.slice ab m cb)).setCell ⟨g0, 2, none⟩ (.slice (some ⟨gm, 0, none⟩) P P)) g0 63 [.slice aa n ca, .slice ab m cb, .slice (some ⟨gm, 0, none⟩) P P] := hR2.set 2 (.slice (some ⟨gm, 0, none⟩) P P)
      have hO : Only (· = g0) wr (((wr.setCell ⟨g0, 0, none⟩ (.slice aa n ca)).setCell ⟨g0, 1, none⟩ (.slice ab m cb)).setCell ⟨g0, 2, none⟩ (.slice (some ⟨gm, 0, none⟩) P P)) := (((Only.refl (· = g0) wr).set g0 0 _ rfl).set g0 1 _ rfl).set g0 2 _ rfl
      have t := (unhide HT).tb
      have HE : Hid (TabR x y (.slice aa n ca) (.slice ab m cb) w (.returned (.agg #[.slice aa n ca, .slice ab m cb, .slice (some ⟨gm, 0, none⟩) P P])) (((wr.setCell ⟨g0, 0, none⟩ (.slice aa n ca)).setCell ⟨g0, 1, none⟩ (.slice ab m cb)).setCell ⟨g0, 2, none⟩ (.slice (some ⟨gm, 0, none⟩) P P))) := hide ⟨Ba, Bb, _, M, rfl, ⟨own_only t.a hO (fun q hq hp => tag_ne t.a hR (by decide) (by rw [hq, hp])), own_only t.b hO (fun q hq hp => tag_ne t.b hR (by decide) (by rw [hq, hp])), own_only t.m hO (fun q hq hp => tag_ne t.m hR (by decide) (by rw [hq, hp])), t.cx, t.cy, t.len, t.nx, t.ny⟩, by
        have h9 := (unhide HT).ti
        rw [unhide HU0, ← unhide HM] at h9
        exact h9.ends, (unhide HT).bel.trans (hO.below (unhide HT).bel.size (fun q hq => by rw [hq]; exact (unhide HT).g0B))⟩
      have HR3 := hide hR3
      clear hR hR1 hR2 hR3 hO t HT
      go_wp2_with fail
      refine bodyPost_ret (results_cell_row Tryd.results35 _ _ g0 63 #[.slice aa n ca, .slice ab m cb, .slice (some ⟨gm, 0, none⟩) P P] _ _ rfl (unhide HR3) Tryd.underlying63 rfl (by kernel_rfl)) rfl ?_
      exact unhide HE
    · obtain ⟨i, rfl⟩ : ∃ i, u = i + 1 := ⟨u - 1, by omega⟩
      rw [show ((i + 1 : Nat) : Int) - 1 = (i : Int) by omega]
      have i0 : (0 : Int) ≤ (i : Int) := by omega
      clear hu0
      go_wp2_with fail
      go_loopw [7] (fun jv wr => ∃ (v : Nat) (M : List Nat), v ≤ m ∧ jv = .int .i64 ((v : Int) - 1) ∧ Hid (TbW w wr Ba Bb g0 gm gt (.slice aa n ca) (.slice ab m cb) x y (i + 1) v P M)) (fun jv _ => (intOf jv + 1).toNat)
      case atStart => exact ⟨m, _, by omega, rfl, HT⟩
      case round =>
        clear HT
        obtain ⟨v, M, hv, rfl, HT⟩ := hrel
        by_cases hv0 : v = 0
        · have hvI : ¬ (0 : Int) ≤ (v : Int) - 1 := by omega
          have HV0 := hide hv0
          clear hv0
          go_wp2_with fail
          exact ⟨⟨i, M, by omega, by simp, hide (by have h9 := unhide HT; rw [unhide HV0] at h9; have h8 := h9.rowed; rw [unhide HM] at h8; exact h8)⟩, by simp [intOf]⟩
        · obtain ⟨j, rfl⟩ : ∃ j, v = j + 1 := ⟨v - 1, by omega⟩
          rw [show ((j + 1 : Nat) : Int) - 1 = (j : Int) by omega]
          have j0 : (0 : Int) ≤ (j : Int) := by omega
          have hiX : i < x.length := by rw [unhide HN]; omega
          have hjX : j < y.length := by rw [unhide HM]; omega
          have hst := (unhide HT).stores hiX hjX
          have hlt : i * (y.length + 1) + j < P := by rw [← unhide HP]; exact place_lt (by omega) (by omega)
          have h3 := (unhide HT).ti.three hiX hjX
          have KP := hide (fun W => place_any (.slice aa n ca) (.slice (some ⟨gm, 0, none⟩) P P) ab m cb i j W (by omega) (by omega) hny)
          have KB := hide (fun W (hb : Below wr.heap.size wr W) => best_any ((unhide HT).tb.call hb) hiX hjX h3.1 h3.2.1 h3.2.2)
          have HNX := hide (fun w3 (hb : Below wr.heap.size wr w3) => (unhide HT).set hb hiX hjX)
          obtain ⟨p, hp⟩ : ∃ z, i * (y.length + 1) + j = z := ⟨_, rfl⟩
          rw [hp] at hst hlt
          have HST := hide hst
          rw [hp] at HNX
          rw [unhide HM] at hp
          rw [hp] at KP
          obtain ⟨N, hN⟩ : ∃ z, bestN x y i j = z := ⟨_, rfl⟩
          rw [hN] at KB HNX
          have HS := hide (unhide HT).sees
          have HSS := hide ((unhide HT).sees2 p (.int .u16 (N : Int)))
          have p0 : (0 : Int) ≤ (p : Int) := by omega
          have p1 : (p : Int) < (P : Int) := by omega
          have k0 : Below wr.heap.size wr wr.drew := (Below.refl _ _).drew
          clear hst hlt h3 hp hN hv0 hiX hjX
          go_wp2_with fail
          go_region_held3 (fun W => W.cell? ⟨gt, 0, none⟩ = some (.slice aa n ca) ∧ W.cell? ⟨gt, 1, none⟩ = some (.slice ab m cb) ∧ W.cell? ⟨gt, 2, none⟩ = some (.slice (some ⟨gm, 0, none⟩) P P))
            (first | exact unhide HS _ k0 | exact unhide HS _ k2 | exact unhide HS _ k1 | exact unhide HSS _ k2)
            (first | (go_at_call 57; with_reducible refine Calls.mono (unhide KP _) ?_; rintro e w2 ⟨rfl, b2⟩; have k1 : Below wr.heap.size wr w2 := k0.trans (b2.mono k0.size)) | (go_at_call 56; with_reducible refine Calls.mono (unhide KB _ k1) ?_; rintro e w3 ⟨rfl, b3⟩; have k2 : Below wr.heap.size wr w3 := k1.trans (b3.mono k1.size); obtain ⟨hfz, zz, hcz⟩ := unhide HST _ k2))
          have HNE := hide (unhide HNX _ k2)
          clear k0 k1 k2 b2 b3 hfz hcz HST HS HSS KP KB HNX
          go_wp2_with fail
          exact ⟨⟨j, _, by omega, by simp, HNE⟩, by simp [intOf]⟩
end Go.Proofs.YtonabfpgdgnpnaaDoor
