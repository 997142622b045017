/- The borders of a pattern. -/
import Derived.Test.YtdnbhomjfgpcfaaDoorLKm
namespace Go.Proofs.YtdnbhomjfgpcfaaDoor
set_option linter.unusedVariables false
set_option linter.unusedSimpArgs false
open Go.ChangeShapes Go.WideShapes Go.ChangeAt Go.RowKit Go.Joins Go.Deep

theorem own_set {w : World} {B e n g c : Nat} {xs : List Value} (h : w.ownsRow B e 1 (.slice (some ⟨g, 0, none⟩) n c) n xs) (i : Nat) (u : Value) (hi : i < n) : (w.setCell ⟨g, i, none⟩ u).ownsRow B e 1 (.slice (some ⟨g, 0, none⟩) n c) n (xs.set i u) := by
  obtain ⟨h1, h2⟩ := h
  refine ⟨by rw [List.length_set]; exact h1, ?_⟩
  rcases h2 with ⟨h2, _⟩ | ⟨g', cap, cur, e1, e2, e3, e4, e5, e6, e7⟩
  · cases h2
  · cases e1
    refine .inr ⟨g, c, cur.setIfInBounds i u, rfl, e2, ?_, e4, e5, by rw [Array.size_setIfInBounds]; exact e6, ?_⟩
    · rw [heap_setCell_same w g i _ e u e3]
    · rw [Array.toList_setIfInBounds, ← e7, Nat.mul_one, List.take_set]
theorem own_fr {w : World} {B e n g c : Nat} {xs : List Value} (h : w.ownsRow B e 1 (.slice (some ⟨g, 0, none⟩) n c) n xs) (i : Nat) : w.frozen? ⟨g, i, none⟩ = false := by
  rcases h.2 with ⟨h2, _⟩ | ⟨g', cap, cur, e1, e2, e3, _⟩
  · cases h2
  · cases e1
    exact frozen_of_row w g i _ e e3
theorem row_cell {w : World} {B e n g c : Nat} {xs : List Value} (h : w.ownsRow B e 1 (.slice (some ⟨g, 0, none⟩) n c) n xs) {i : Nat} {u : Value} (hu : xs[i]? = some u) : w.cell? ⟨g, i, none⟩ = some u := by
  have := World.ownsRow.cells h (g := g) rfl i u hu
  simpa [Addr.add_lit] using this
theorem suf_tail {P : List Int} {k i : Nat} (hk : k ≤ i) (hi : i < P.length) : P.take k <:+ P.take (i + 1) ↔ P.take k <:+ P.tail.take i := by
  cases P with
  | nil => simp at hi
  | cons p q =>
    simp only [List.length_cons] at hi
    rw [List.tail_cons, List.take_succ_cons]
    constructor
    · intro h
      refine List.suffix_of_suffix_length_le h (List.suffix_cons _ _) ?_
      rw [List.length_take, List.length_take, List.length_cons]
      omega
    · intro h
      exact h.trans (List.suffix_cons _ _)
theorem Mq.bd {P : List Int} {i n : Nat} (h : Mq P (P.tail.take i) n) (hi : i < P.length) : n ≤ i ∧ Bd P (i + 1) n := by
  have h1 := h.2.1.length_le
  rw [List.length_take, List.length_take, List.length_tail] at h1
  have h2 := h.1
  have hn : n ≤ i := by omega
  exact ⟨hn, by omega, (suf_tail hn hi).2 h.2.1, fun k hk hks => h.2.2 k (by omega) ((suf_tail (by omega) hi).1 hks)⟩
structure BI (P : List Int) (bk : List Nat) (i n : Nat) : Prop where
  len : bk.length = P.length + 1
  mq : Mq P (P.tail.take i) n
  bd : ∀ q, 0 < q → q ≤ i + 1 → Bd P q (bk.getD q 0)
theorem BI.start {P : List Int} (h : 0 < P.length) : BI P (List.replicate (P.length + 1) 0) 0 0 := by
  have hm : Mq P (P.tail.take 0) 0 := ⟨h, by simp, fun k hk hks => by
    have := hks.length_le
    rw [List.length_take, List.length_take] at this
    omega⟩
  refine ⟨by simp, hm, fun q h1 h2 => ?_⟩
  obtain rfl : q = 1 := by omega
  have : (List.replicate (P.length + 1) 0).getD 1 0 = 0 := by
    rw [List.getD_eq_getElem?_getD, List.getElem?_replicate]
    split <;> rfl
  rw [this]
  exact (hm.bd h).2
theorem BI.next {P : List Int} {bk : List Nat} {i n : Nat} (h : BI P bk i n) (hi : i + 1 < P.length) : BI P (bk.set (i + 2) (gw P bk (P.getD (i + 1) 0) (n + 1) n)) (i + 1) (gw P bk (P.getD (i + 1) 0) (n + 1) n) := by
  have hb := h.mq.bd (by omega)
  have hg := h.mq.grow (r := P.getD (i + 1) 0) (fun q h1 h2 => h.bd q h1 (by omega))
  have hx : P.tail.take (i + 1) = P.tail.take i ++ [P.getD (i + 1) 0] := by
    rw [take_next (by rw [List.length_tail]; omega)]
    congr 2
    rw [List.getD_eq_getElem?_getD, List.getD_eq_getElem?_getD, List.getElem?_tail]
  have hm : Mq P (P.tail.take (i + 1)) (gw P bk (P.getD (i + 1) 0) (n + 1) n) := by
    rw [hx]
    exact ⟨by omega, hg.2.1, fun k hk hks => hg.2.2 k (by omega) hks⟩
  refine ⟨by rw [List.length_set]; exact h.len, hm, fun q h1 h2 => ?_⟩
  by_cases hq : q = i + 2
  · subst hq
    have : (bk.set (i + 2) (gw P bk (P.getD (i + 1) 0) (n + 1) n)).getD (i + 2) 0 = gw P bk (P.getD (i + 1) 0) (n + 1) n := by
      rw [List.getD_eq_getElem?_getD, List.getElem?_set_self (by rw [h.len]; omega)]
      rfl
    rw [this]
    exact (hm.bd (by omega)).2
  · have : (bk.set (i + 2) (gw P bk (P.getD (i + 1) 0) (n + 1) n)).getD q 0 = bk.getD q 0 := by
      rw [List.getD_eq_getElem?_getD, List.getElem?_set_ne (by omega), ← List.getD_eq_getElem?_getD]
    rw [this]
    exact h.bd q h1 (by omega)
theorem nsv_set (l : List Nat) (i n : Nat) : (nsv l).set i (.int .i64 (n : Int)) = nsv (l.set i n) := by simp [nsv, List.map_set]
theorem nsv_rep (n : Nat) : nsv (List.replicate n 0) = List.replicate n (.int .i64 0) := by simp [nsv]
def BorR (P : List Int) (m : Nat) (w : World) (r : Ending) (w' : World) : Prop := ∃ vb bk, r = .returned vb ∧ w'.ownsRow w.heap.size 3 1 vb (m + 1) (nsv bk) ∧ (∀ q, 0 < q → q ≤ m → Bd P q (bk.getD q 0)) ∧ Below w.heap.size w w'
set_option maxRecDepth 100000 in
set_option maxHeartbeats 4000000 in
theorem borders_any (B m : Nat) (vp : Value) (P : List Int) (w : World) (hp : w.ownsRow B 21 1 vp m (riv P)) (h0 : 0 < m) (hm : m ≤ 1099511627776) :
    Calls Tryd.prog 75 #[vp] w fun r w' => BorR P m w r w' := by
  have hPl : P.length = m := by have := hp.1; simpa [riv] using this
  obtain ⟨x0, hx0⟩ : ∃ x, P[0]? = some x := ⟨_, List.getElem?_eq_getElem (by omega)⟩
  obtain ⟨gp, cp, rfl, _, _, hpc, hpm⟩ := own_rd hp (i := 0) (u := .int .i32 x0) (by simp [riv, hx0])
  have HP := hide hp
  have HPL := hide hPl
  have h0I : (0 : Int) < (m : Int) := by omega
  have h1I : (1 : Int) ≤ (m : Int) := by omega
  have hmI : (m : Int) ≤ 1099511627776 := by omega
  obtain ⟨a1, ha1⟩ : ∃ a1, (if cp = 1 then some (⟨gp, 0, none⟩ : Addr) else some ⟨gp, 1, none⟩) = a1 := ⟨_, rfl⟩
  have HA1 := hide ha1
  clear hp hPl hx0
  obtain ⟨w1, hmk, hr1, hg1⟩ := run_make_full (P := Tryd.prog) w w.heap.size 38 3 (Classical.choose info64) (.int .i64 0) 1 Tryd.underlying38 (Classical.choose_spec info64).1 (Classical.choose_spec info64).2.1 (Classical.choose_spec info64).2.2.1 .i64 .i64 (m + 1) (by rw [(Classical.choose_spec info64).2.2.2]; omega) (by unfold maxLen; omega) (Nat.le_refl _)
  have hmk' : (Instr.makeSlice 38 (.int .i64 ((m : Int) + 1)) (.int .i64 ((m : Int) + 1))).run Tryd.prog w = .ok (.slice (some ⟨w.heap.size, 0, none⟩) (m + 1) (m + 1)) w1 := by simpa using hmk
  have hrow : w1.ownsRow w.heap.size 3 1 (.slice (some ⟨w.heap.size, 0, none⟩) (m + 1) (m + 1)) (m + 1) (nsv (List.replicate (m + 1) 0)) := by
    rw [nsv_rep]
    have e : (madeCells (Value.int .i64 0).cells ((m + 1) * 1)).toList = List.replicate (m + 1) (.int .i64 0) := by
      refine List.eq_replicate_iff.2 ⟨by simp [madeCells], fun v hv => ?_⟩
      simp [madeCells, Value.cells, Nat.mod_one] at hv
      first | exact hv.symm | exact hv | (obtain ⟨_, hv⟩ := hv; exact hv.symm) | (obtain ⟨_, hv⟩ := hv; exact hv) | simp_all
    rw [e] at hr1
    exact hr1
  have b1 : Below w.heap.size w w1 := (grown_only hg1).below (Nat.le_refl _) (fun k hk => by cases hk)
  have HR1 := hide hrow
  have B1 := hide b1
  have HP1 := hide (own_call (unhide HP) b1)
  have HST : Hid (BI P (List.replicate (m + 1) 0) 0 0) := hide (by have := BI.start (P := P) (by rw [unhide HPL]; exact h0); rw [unhide HPL] at this; exact this)
  clear hmk hr1 hg1 hrow b1 HP
  obtain ⟨gb, hgb⟩ : ∃ z, w.heap.size = z := ⟨_, rfl⟩
  have HGB := hide hgb
  go_enter Tryd.func75, Tryd.ntmps75
  go_wp2_with fail
  rw [hgb] at HR1
  clear ha1 hmk' hgb
  go_loopw [4, 14] (fun v i wr => ∃ (k n : Nat) (bk : List Nat), k ≤ m - 1 ∧ i = .int .i64 (k : Int) ∧ v = .int .i64 (n : Int) ∧ Hid (BI P bk k n) ∧ Hid (wr.ownsRow gb 3 1 (.slice (some ⟨gb, 0, none⟩) (m + 1) (m + 1)) (m + 1) (nsv bk)) ∧ Hid (wr.ownsRow B 21 1 (.slice (some ⟨gp, 0, none⟩) m cp) m (riv P)) ∧ Hid (Below w.heap.size w wr)) (fun _ i _ => ((m : Int) - intOf i).toNat)
  case atStart => exact ⟨0, 0, _, by omega, by simp, rfl, HST, HR1, HP1, B1⟩
  case round =>
    clear HST HR1 HP1 B1
    obtain ⟨k, n, bk, hk, rfl, rfl, HI, HR, HP, HB⟩ := hrel
    by_cases c1 : k < m - 1
    · have c2 : (k : Int) < ((m - 1 : Nat) : Int) := by omega
      obtain ⟨x, hx⟩ : ∃ x, P[k + 1]? = some x := ⟨_, List.getElem?_eq_getElem (by rw [unhide HPL]; omega)⟩
      have hxd : P.getD (k + 1) 0 = x := by rw [List.getD_eq_getElem?_getD, hx]; rfl
      have haa : a1 = some ⟨gp, 1, none⟩ := by rw [← unhide HA1, if_neg (by omega)]
      subst haa
      have hcell : wr.cell? ⟨gp, 1 + k, none⟩ = some (.int .i32 x) := by
        have := row_cell (unhide HP) (i := k + 1) (u := .int .i32 x) (by simp [riv, hx])
        rw [Nat.add_comm] at this
        exact this
      have hI := unhide HI
      have hnk := (hI.mq.bd (by rw [unhide HPL]; omega)).1
      have KG := hide (grow_any B gb m _ _ P bk n x wr (unhide HP) (unhide HR) (by omega) hm (fun q h1 h2 => (hI.bd q h1 (by omega)).1))
      have HN := hide (hI.next (by rw [unhide HPL]; omega))
      rw [hxd] at HN
      have hbl : bk.length = m + 1 := by have := hI.len; rw [unhide HPL] at this; exact this
      obtain ⟨y, hy⟩ : ∃ y, bk[k + 2]? = some y := ⟨_, List.getElem?_eq_getElem (by rw [hbl]; omega)⟩
      have hcy : wr.cell? ⟨gb, k + 2, none⟩ = some (.int .i64 (y : Int)) := row_cell (unhide HR) (by simp [nsv, hy])
      have hfy : wr.frozen? ⟨gb, k + 2, none⟩ = false := own_fr (unhide HR) _
      obtain ⟨G, hG⟩ : ∃ G, gw P bk x (n + 1) n = G := ⟨_, rfl⟩
      rw [hG] at KG HN
      have ho : Only (· = gb) wr (wr.setCell ⟨gb, k + 2, none⟩ (.int .i64 (G : Int))) := (Only.refl _ _).set gb (k + 2) _ rfl
      have HR2 : Hid ((wr.setCell ⟨gb, k + 2, none⟩ (.int .i64 (G : Int))).ownsRow gb 3 1 (.slice (some ⟨gb, 0, none⟩) (m + 1) (m + 1)) (m + 1) (nsv (bk.set (k + 2) G))) := hide (by have := own_set (unhide HR) (k + 2) (.int .i64 (G : Int)) (by omega); rw [nsv_set] at this; exact this)
      have HP2 := hide (own_only (unhide HP) ho (fun q hq hp => own_ne (unhide HP) (unhide HR) (by decide) q hq (by rw [hp]; rfl)))
      have HB2 := hide ((unhide HB).trans (ho.below (unhide HB).size (fun q hq => by rw [hq, ← unhide HGB]; exact Nat.le_refl _)))
      have k0 : (0 : Int) ≤ (k : Int) := by omega
      have k2 : (k : Int) + 2 < (m : Int) + 1 := by omega
      clear hx hxd hI hy hG ho HR HP HB HI
      go_wp2_with fail
      refine Calls.mono (unhide KG) ?_
      rintro r w3 ⟨rfl, rfl⟩
      go_wp2_with fail
      exact ⟨⟨k + 1, G, _, by omega, by simp, rfl, HN, HR2, HP2, HB2⟩, by simp [intOf]; omega⟩
    · obtain rfl : m = k + 1 := by omega
      have hI := unhide HI
      have HE : Hid (BorR P (k + 1) w (.returned (.slice (some ⟨gb, 0, none⟩) (k + 1 + 1) (k + 1 + 1))) wr) := hide ⟨_, bk, rfl, by rw [unhide HGB]; exact unhide HR, fun q h1 h2 => hI.bd q h1 h2, unhide HB⟩
      have c2 : ¬ (k : Int) < ((k + 1 - 1 : Nat) : Int) := by simp
      clear hI HR HP HB HI
      go_wp2_with fail
      go_ret
      exact unhide HE
end Go.Proofs.YtdnbhomjfgpcfaaDoor
