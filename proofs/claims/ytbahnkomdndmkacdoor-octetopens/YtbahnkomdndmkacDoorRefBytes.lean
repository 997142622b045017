/- The document's own reader: bytes. -/
import Derived.Test.YtbahnkomdndmkacDoorRefNum
import Derived.Test.YtbahnkomdndmkacDoorRef2
import Derived.Deep.RegionHeld3
import Derived.Maps.AppendAt
namespace Go.Proofs.YtbahnkomdndmkacDoor
set_option linter.unusedVariables false
set_option linter.unusedSimpArgs false
open Go.ChangeShapes Go.WideShapes Go.ChangeAt Go.RowKit

def Rd (w : World) (g : Nat) (v : Value) (k : Nat) (e : Int) : Prop :=
  (w.cell? ⟨g, 0, none⟩ = some v ∧ w.cell? ⟨g, 1, none⟩ = some (.int .i64 (k : Int)) ∧ w.cell? ⟨g, 2, none⟩ = some (.int .i64 e) ∧ w.frozen? ⟨g, 0, none⟩ = false ∧ w.frozen? ⟨g, 1, none⟩ = false ∧ w.frozen? ⟨g, 2, none⟩ = false) ∧ g < w.heap.size
theorem Rd.below {w w' : World} {g : Nat} {v : Value} {k : Nat} {e : Int} (h : Rd w g v k e) (hb : Below (g + 1) w w') : Rd w' g v k e := by
  obtain ⟨⟨h0, h1, h2, h3, h4, h5⟩, hs⟩ := h
  refine ⟨⟨cell_keep hb (Nat.lt_succ_self _) h0, cell_keep hb (Nat.lt_succ_self _) h1, cell_keep hb (Nat.lt_succ_self _) h2, ?_, ?_, ?_⟩, Nat.lt_of_lt_of_le hs hb.size⟩
  · rw [hb.frozen (p := ⟨g, 0, none⟩) (Nat.lt_succ_self _)]; exact h3
  · rw [hb.frozen (p := ⟨g, 1, none⟩) (Nat.lt_succ_self _)]; exact h4
  · rw [hb.frozen (p := ⟨g, 2, none⟩) (Nat.lt_succ_self _)]; exact h5
theorem Rd.at {w : World} {g : Nat} {v : Value} {k : Nat} {e : Int} (h : Rd w g v k e) (k' : Nat) : Rd (w.setCell ⟨g, 1, none⟩ (.int .i64 (k' : Int))) g v k' e := by
  obtain ⟨⟨h0, h1, h2, h3, h4, h5⟩, hs⟩ := h
  refine ⟨⟨?_, set_same _ h1, ?_, ?_, ?_, ?_⟩, ?_⟩
  · rw [set_other _ (by decide)]; exact h0
  · rw [set_other _ (by decide)]; exact h2
  · simpa using h3
  · simpa using h4
  · simpa using h5
  · simpa using hs

theorem bad_refnum {l : List Nat} {e0 : Int} (h : BadBytes l 0 16384 e0) :
    (refNum l = (0, e0) ∧ (e0 = 2 ∨ e0 = 5)) ∨ ∃ m : Nat, refNum l = (m, 0) ∧ ((16384 < m ∧ e0 = 4) ∨ (m ≤ 16384 ∧ l.length < 8 + m ∧ 0 < m ∧ e0 = 2)) := by
  unfold BadBytes at h
  rw [List.drop_zero] at h
  unfold refNum
  rcases h with ⟨h1, rfl⟩ | ⟨h1, h2, rfl⟩ | ⟨h1, h2, h3, rfl⟩ | ⟨h1, h2, h3, h4, rfl⟩
  · rw [if_pos (by omega)]; exact .inl ⟨rfl, .inl rfl⟩
  · rw [if_neg (by omega), if_pos h2]; exact .inl ⟨rfl, .inr rfl⟩
  · rw [if_neg (by omega), if_neg (by omega)]; exact .inr ⟨_, rfl, .inl ⟨by omega, rfl⟩⟩
  · rw [if_neg (by omega), if_neg (by omega)]; exact .inr ⟨_, rfl, .inr ⟨by omega, by omega, by omega, rfl⟩⟩

theorem refnum_draws (a : Option Addr) (n cap : Nat) (l : List Nat) (w : World) (hv : Byt w (.slice a n cap) l) (hl : n ≤ 1000000000) (h256 : ∀ y ∈ l, y < 256) (N : Nat) (E : Int) (h : refNum l = (N, E)) (q : Nat) :
    Calls Tryd.prog 46 #[.slice a n cap] (w.drewN q) fun e w' => e = .returned (.tuple #[.int .i64 (N : Int), .int .i64 E]) ∧ w' = w.drewN q := by
  have hln := byt_len hv
  refine (refnum_any _ l _ (hv.drew q) (by omega) h256).mono ?_
  rintro e w' ⟨rfl, rfl⟩
  rw [h]
  exact ⟨rfl, rfl⟩

set_option maxRecDepth 100000 in
set_option maxHeartbeats 4000000 in
theorem refbytes_bad (g : Nat) (a : Option Addr) (n cap : Nat) (l : List Nat) (e0 : Int) (w : World) (hv : Byt w (.slice a n cap) l) (hr : Rd w g (.slice a n cap) 0 0) (hl : n ≤ 1000000000) (h256 : ∀ y ∈ l, y < 256)
    (hbad : BadBytes l 0 16384 e0) :
    Calls Tryd.prog 25 #[.pointer (some ⟨g, 0, none⟩), .int .i64 16384] w fun e w' => e = .returned (.slice none 0 0) ∧ ∃ d, w' = (w.drewN d).setCell ⟨g, 2, none⟩ (.int .i64 e0) := by
  have hln := byt_len hv
  have hF := hr.1
  rcases bad_refnum hbad with ⟨hn, he⟩ | ⟨m, hn, ⟨hm, rfl⟩ | ⟨hm, hm2, hm3, rfl⟩⟩
  · have HE := hide (refnum_draws a n cap l w hv hl h256 _ _ hn)
    clear hv h256 hbad hn hr hln
    rcases he with rfl | rfl
    · go_enter Tryd.func25, Tryd.ntmps25
      go_wp2_with fail
      go_quiet ((go_at_call 46; exact Calls.quiet_of_same (unhide HE _)))
      go_wp2_with fail
      go_quiet (fail)
      go_wp2_with fail
      go_ret
      exact ⟨rfl, _, rfl⟩
    · go_enter Tryd.func25, Tryd.ntmps25
      go_wp2_with fail
      go_quiet ((go_at_call 46; exact Calls.quiet_of_same (unhide HE _)))
      go_wp2_with fail
      go_quiet (fail)
      go_wp2_with fail
      go_ret
      exact ⟨rfl, _, rfl⟩
  · have HE := hide (refnum_draws a n cap l w hv hl h256 _ _ hn)
    have g1 : (0 : Int) < (m : Int) := by omega
    have g2 : (16384 : Int) < (m : Int) := by omega
    clear hv h256 hbad hn hr hln
    go_enter Tryd.func25, Tryd.ntmps25
    go_wp2_with fail
    go_quiet ((go_at_call 46; exact Calls.quiet_of_same (unhide HE _)))
    go_wp2_with fail
    go_quiet (fail)
    go_wp2_with fail
    go_ret
    exact ⟨rfl, _, rfl⟩
  · have HE := hide (refnum_draws a n cap l w hv hl h256 _ _ hn)
    have g1 : decide ((n : Int) - 8 < (m : Int)) = true := by simp; omega
    have g0 : (0 : Int) < (m : Int) := by omega
    have g2 : decide ((16384 : Int) < (m : Int)) = false := by simp; omega
    clear hv h256 hbad hn hr hln
    go_enter Tryd.func25, Tryd.ntmps25
    go_wp2_with fail
    go_quiet ((go_at_call 46; exact Calls.quiet_of_same (unhide HE _)))
    go_wp2_with fail
    go_quiet (fail)
    go_wp2_with fail
    go_ret
    exact ⟨rfl, _, rfl⟩

theorem step_append_mine {P : Program} (w : World) {ops : Array Oper} {o : Oper} {a : Act} {K : Act → World → Prop} {Q : Exit → Act → World → Prop} {E : Prop} (hgd : o.guard = none) (s x : Operand) (t : TypeId)
    (ho : o.op = .call { callee := .builtin .append, args := #[s, x], argTypes := #[t, t] })
    (base : Nat) (e : TypeId) (i : TypeInfo) (z : Value) (size bytes : Nat) (ht : P.underlying t = some (.slice e)) (hi : P.info? e = some i) (hz : i.zero = some z)
    (hsize : i.size = size) (hby : i.bytes = bytes) (hzs : z.cells.size = size) (hsz : 0 < size)
    (v : Value) (n : Nat) (xs : List Value) (hs : a.eval s = v) (hown : w.ownsRow base e size v n xs)
    (ad : Addr) (m c : Nat) (news : List Value) (hx : a.eval x = .slice (some ad) m c) (hl : news.length = m * size) (hnews : ∀ j u, news[j]? = some u → w.cell? (ad.add j) = some u) (h1 : ∀ u ∈ news, u.oneCell' = true)
    (h63 : n + m ≤ maxLen) (hbytes : (n + m) * bytes ≤ 140737488355328) (hbase : base ≤ w.heap.size)
    (h : ∀ ad' cap w', w'.ownsRow base e size (.slice ad' (n + m) cap) (n + m) (xs ++ news) → w.grownBy w' v.ownBlock → (Value.ownBlock (.slice ad' (n + m) cap) = v.ownBlock ∨ Value.ownBlock (.slice ad' (n + m) cap) = some w.heap.size) → K (a.put o.dst (.slice ad' (n + m) cap)) w') :
    if Region.wanted o (yielded ops a.tmps) = true then Oper.wp P o a w K Q else E := by
  have hw : Region.wanted o (yielded ops a.tmps) = true := by simp [Region.wanted, hgd]
  rw [if_pos hw]
  obtain ⟨v', w', hr, h2, h3, _, h5⟩ := run_append_own_at (P := P) w base t o.type e i z size bytes ht hi hz hsize hby hzs hsz v n xs hown ad m c news hl hnews h1 h63 hbytes hbase
  obtain ⟨ad', cap, rfl⟩ : ∃ ad' cap, v' = .slice ad' (n + m) cap := by
    rcases h2.2 with ⟨rfl, h0⟩ | ⟨g, cap, cur, rfl, _⟩
    · exact ⟨none, 0, by rw [h0]⟩
    · exact ⟨_, cap, rfl⟩
  unfold Oper.wp execOp
  simp only [ho, resolve, invoke, builtin, Sem.run_bind, Sem.run_pure, Result.andThen_ok, List.map_toArray, List.map_cons, List.map_nil, hs, hx, hr]
  exact h ad' cap w' h2 h3 h5

set_option maxRecDepth 100000 in
set_option maxHeartbeats 4000000 in
theorem refbytes_any (g : Nat) (a : Option Addr) (n cap : Nat) (l : List Nat) (w : World) (hv : Byt w (.slice a n cap) l) (hr : Rd w g (.slice a n cap) 0 0) (hg : Low (.slice a n cap) g) (hl : n ≤ 1000000000) (h256 : ∀ y ∈ l, y < 256)
    (m : Nat) (hm : numOf (l.take 8) = m) (h8 : 8 + m ≤ n) (hmost : m ≤ 16384) :
    Calls Tryd.prog 25 #[.pointer (some ⟨g, 0, none⟩), .int .i64 16384] w fun e w' => ∃ v', e = .returned v' ∧ w'.ownsRow w.heap.size 5 1 v' m (bv ((l.drop 8).take m)) ∧ Rd w' g (.slice a n cap) (8 + m) 0 ∧ Below g w w' := by
  have hln := byt_len hv
  have hF := hr.1
  obtain ⟨i0, hi, hz0, hz1, hz2⟩ := info_parts info5
  have hn : refNum l = (m, 0) := by
    unfold refNum
    rw [if_neg (by omega), if_neg (by omega), hm]
  have HE := hide (refnum_draws a n cap l w hv hl h256 _ _ hn)
  rcases hv with ⟨_, rfl⟩ | ⟨a0, cap0, hva, c1, c2, c3⟩
  · simp at hln; omega
  injection hva with e1 e2 e3
  subst e1 e3
  rw [hln] at c1
  obtain ⟨b, off, rfl⟩ := plain_of c3 (by rw [hln]; omega)
  have HC := hide c3
  have HR := hide hr
  have HLN := hide hln
  have g1 : ¬ (n : Int) - 8 < (m : Int) := by omega
  have g2 : ¬ (16384 : Int) < (m : Int) := by omega
  have g3 : (8 : Int) + (m : Int) ≤ (cap : Int) := by omega
  have g4 : (8 : Int) ≤ 8 + (m : Int) := by omega
  have hgz := hr.2
  clear c3 hr h256 hn hm hln e2
  have HV : Hid (∀ q, Rd ((w.drewN q).setCell ⟨g, 1, none⟩ (.int .i64 (8 + (m : Int)))) g (.slice (some ⟨b, off, none⟩) n cap) (8 + m) 0 ∧ Below g w ((w.drewN q).setCell ⟨g, 1, none⟩ (.int .i64 (8 + (m : Int)))) ∧ ((w.drewN q).setCell ⟨g, 1, none⟩ (.int .i64 (8 + (m : Int)))).heap.size = w.heap.size ∧
      ∀ j u, (bv ((l.drop 8).take m))[j]? = some u → ((w.drewN q).setCell ⟨g, 1, none⟩ (.int .i64 (8 + (m : Int)))).cell? ((⟨b, off + 8, none⟩ : Addr).add j) = some u) := by
    refine hide fun q => ?_
    have hB : Below g w ((w.drewN q).setCell ⟨g, 1, none⟩ (.int .i64 (8 + (m : Int)))) := (Joins.below_draws g w q).setCell (Nat.le_refl g) _
    refine ⟨?_, hB, by simp, ?_⟩
    · have := ((unhide HR).below (Joins.below_draws (g + 1) w q)).at (8 + m)
      simpa using this
    · have hsb := slice_byt (k := 8) (m := m) (unhide HC) (unhide HLN) (by omega) (by omega) c2
      rw [add_plain] at hsb
      have hb := hsb.low hB ?_
      · rcases hb with ⟨h, _⟩ | ⟨a1, cap1, h, _, _, c4⟩
        · cases h
        · injection h with h1 _ _
          injection h1 with h1
          subst h1
          exact Byt.news c4
      · intro a' n' cap' e hpos
        injection e with e3 e4 _
        injection e3 with e5
        subst e5
        exact hg ⟨b, off, none⟩ n cap rfl (by omega)
  have hlen : (bv ((l.drop 8).take m)).length = m := by rw [bv_len, List.length_take, List.length_drop, unhide HLN]; omega
  have HLEN := hide hlen
  clear hlen
  by_cases g0 : (0 : Int) < (m : Int)
  · have hcap : cap ≠ 8 := by omega
    have g5 : 8 + m - 8 = m := by omega
    have g6 : (8 + (m : Int)).toNat = 8 + m := by omega
    go_enter Tryd.func25, Tryd.ntmps25
    go_wp2_with fail
    go_quiet ((go_at_call 46; exact Calls.quiet_of_same (unhide HE _)))
    rename Nat => nq0
    go_wp2_with fail
    go_quiet (fail)
    go_wp2_with fail
    obtain ⟨hRV, hBV, hsz, hnews⟩ := unhide HV (nq0 + nq)
    have hsz0 : w.heap.size ≤ ((w.drewN (nq0 + nq)).setCell ⟨g, 1, none⟩ (.int .i64 (8 + (m : Int)))).heap.size := Nat.le_of_eq hsz.symm
    generalize (w.drewN (nq0 + nq)).setCell ⟨g, 1, none⟩ (.int .i64 (8 + (m : Int))) = V at *
    have hF := hRV.1
    have hal : Below V.heap.size V (V.alloc (.cells #[] 5)) := (Below.refl _ _).alloc (Nat.le_refl _) _
    have hown : (V.alloc (.cells #[] 5)).ownsRow V.heap.size 5 1 (.slice (some ⟨V.heap.size, 0, none⟩) 0 0) 0 [] := World.ownsRow_made V #[] 0 (Nat.le_refl _) (Nat.zero_le _) rfl
    have HRV := hide hRV
    have HBV := hide hBV
    have HNW := hide hnews
    have hna : ∀ j u, (bv ((l.drop 8).take m))[j]? = some u → (V.alloc (.cells #[] 5)).cell? ((⟨b, off + 8, none⟩ : Addr).add j) = some u := fun j u hj => cell_keep hal (lt_of_cell (hnews j u hj)) (hnews j u hj)
    have HNA := hide hna
    have HAL := hide hal
    have HSZ := hide hsz
    have hgv := hRV.2
    have HOW := hide hown
    clear hRV hBV hnews hal hsz hown hna
    go_region_law
      ((refine step_append_mine _ (by rfl) _ _ _ (by rfl) V.heap.size 5 i0 (.int .u8 0) 1 1 Tryd.underlying22 hi hz0 hz1 hz2 rfl (by decide) (.slice (some ⟨V.heap.size, 0, none⟩) 0 0) 0 [] (by rfl) (by first | exact (unhide HOW).drew | exact unhide HOW)
          ⟨b, off + 8, none⟩ m (cap - 8) (bv ((l.drop 8).take m)) (by rfl) (by rw [unhide HLEN]; omega) (fun j u hj => unhide HNA j u hj) (bv_one _) (by unfold maxLen; omega) (by omega) (by simp) ?_; intro ad' cap' w3 hown3 hgrow hat))
    all_goals go_wp2
    all_goals go_ret
    all_goals
      have hb : Below V.heap.size V w3 := (unhide HAL).drew.grown (row := some V.heap.size) ⟨hgrow.os, hgrow.tape, hgrow.output, hgrow.size, hgrow.block⟩ (by simp) (fun k hk => by injection hk with hk; omega)
      rw [unhide HSZ] at hown3
      rw [Nat.zero_add] at hown3
      refine ⟨.slice ad' m cap', by rfl, own_cast hown3 rfl ?_, (unhide HRV).below (hb.mono hgv), (unhide HBV).trans (hb.mono (Nat.le_of_lt hgv))⟩
      simp [bv]
  · obtain rfl : m = 0 := by omega
    have e8 : (8 + ((0 : Nat) : Int)) = 8 := rfl
    rw [e8] at HV
    have g7 : (8 : Int) ≤ (cap : Int) := by omega
    by_cases hcap : cap = 8
    · subst hcap
      go_enter Tryd.func25, Tryd.ntmps25
      go_wp2_with fail
      go_quiet ((go_at_call 46; exact Calls.quiet_of_same (unhide HE _)))
      rename Nat => nq0
      go_wp2_with fail
      go_quiet (fail)
      go_wp2_with fail
      obtain ⟨hRV, hBV, hsz, hnews⟩ := unhide HV (nq0 + nq)
      have hsz0 : w.heap.size ≤ ((w.drewN (nq0 + nq)).setCell ⟨g, 1, none⟩ (.int .i64 (8))).heap.size := Nat.le_of_eq hsz.symm
      generalize (w.drewN (nq0 + nq)).setCell ⟨g, 1, none⟩ (.int .i64 (8)) = V at *
      have hF := hRV.1
      have hal : Below V.heap.size V (V.alloc (.cells #[] 5)) := (Below.refl _ _).alloc (Nat.le_refl _) _
      have hown : (V.alloc (.cells #[] 5)).ownsRow V.heap.size 5 1 (.slice (some ⟨V.heap.size, 0, none⟩) 0 0) 0 [] := World.ownsRow_made V #[] 0 (Nat.le_refl _) (Nat.zero_le _) rfl
      have HRV := hide hRV
      have HBV := hide hBV
      have HNW := hide hnews
      have hna : ∀ j u, (bv ((l.drop 8).take 0))[j]? = some u → (V.alloc (.cells #[] 5)).cell? ((⟨b, off + 8, none⟩ : Addr).add j) = some u := fun j u hj => cell_keep hal (lt_of_cell (hnews j u hj)) (hnews j u hj)
      have HNA := hide hna
      have HAL := hide hal
      have HSZ := hide hsz
      have hgv := hRV.2
      have HOW := hide hown
      clear hRV hBV hnews hal hsz hown hna
      go_region_law
        ((refine step_append_mine _ (by rfl) _ _ _ (by rfl) V.heap.size 5 i0 (.int .u8 0) 1 1 Tryd.underlying22 hi hz0 hz1 hz2 rfl (by decide) (.slice (some ⟨V.heap.size, 0, none⟩) 0 0) 0 [] (by rfl) (by first | exact (unhide HOW).drew | exact unhide HOW)
            ⟨b, off, none⟩ 0 0 [] (by rfl) (rfl) (fun j u hj => by simp at hj) (fun u hu => by cases hu) (by unfold maxLen; omega) (by omega) (by simp) ?_; intro ad' cap' w3 hown3 hgrow hat))
      all_goals go_wp2
      all_goals go_ret
      all_goals
        have hb : Below V.heap.size V w3 := (unhide HAL).drew.grown (row := some V.heap.size) ⟨hgrow.os, hgrow.tape, hgrow.output, hgrow.size, hgrow.block⟩ (by simp) (fun k hk => by injection hk with hk; omega)
        rw [unhide HSZ] at hown3
        rw [Nat.zero_add] at hown3
        refine ⟨.slice ad' 0 cap', by rfl, own_cast hown3 rfl ?_, (unhide HRV).below (hb.mono hgv), (unhide HBV).trans (hb.mono (Nat.le_of_lt hgv))⟩
        simp [bv]
    · skip
      go_enter Tryd.func25, Tryd.ntmps25
      go_wp2_with fail
      go_quiet ((go_at_call 46; exact Calls.quiet_of_same (unhide HE _)))
      rename Nat => nq0
      go_wp2_with fail
      go_quiet (fail)
      go_wp2_with fail
      obtain ⟨hRV, hBV, hsz, hnews⟩ := unhide HV (nq0 + nq)
      have hsz0 : w.heap.size ≤ ((w.drewN (nq0 + nq)).setCell ⟨g, 1, none⟩ (.int .i64 (8))).heap.size := Nat.le_of_eq hsz.symm
      generalize (w.drewN (nq0 + nq)).setCell ⟨g, 1, none⟩ (.int .i64 (8)) = V at *
      have hF := hRV.1
      have hal : Below V.heap.size V (V.alloc (.cells #[] 5)) := (Below.refl _ _).alloc (Nat.le_refl _) _
      have hown : (V.alloc (.cells #[] 5)).ownsRow V.heap.size 5 1 (.slice (some ⟨V.heap.size, 0, none⟩) 0 0) 0 [] := World.ownsRow_made V #[] 0 (Nat.le_refl _) (Nat.zero_le _) rfl
      have HRV := hide hRV
      have HBV := hide hBV
      have HNW := hide hnews
      have hna : ∀ j u, (bv ((l.drop 8).take 0))[j]? = some u → (V.alloc (.cells #[] 5)).cell? ((⟨b, off + 8, none⟩ : Addr).add j) = some u := fun j u hj => cell_keep hal (lt_of_cell (hnews j u hj)) (hnews j u hj)
      have HNA := hide hna
      have HAL := hide hal
      have HSZ := hide hsz
      have hgv := hRV.2
      have HOW := hide hown
      clear hRV hBV hnews hal hsz hown hna
      go_region_law
        ((refine step_append_mine _ (by rfl) _ _ _ (by rfl) V.heap.size 5 i0 (.int .u8 0) 1 1 Tryd.underlying22 hi hz0 hz1 hz2 rfl (by decide) (.slice (some ⟨V.heap.size, 0, none⟩) 0 0) 0 [] (by rfl) (by first | exact (unhide HOW).drew | exact unhide HOW)
            ⟨b, off + 8, none⟩ 0 (cap - 8) [] (by rfl) (rfl) (fun j u hj => by simp at hj) (fun u hu => by cases hu) (by unfold maxLen; omega) (by omega) (by simp) ?_; intro ad' cap' w3 hown3 hgrow hat))
      all_goals go_wp2
      all_goals go_ret
      all_goals
        have hb : Below V.heap.size V w3 := (unhide HAL).drew.grown (row := some V.heap.size) ⟨hgrow.os, hgrow.tape, hgrow.output, hgrow.size, hgrow.block⟩ (by simp) (fun k hk => by injection hk with hk; omega)
        rw [unhide HSZ] at hown3
        rw [Nat.zero_add] at hown3
        refine ⟨.slice ad' 0 cap', by rfl, own_cast hown3 rfl ?_, (unhide HRV).below (hb.mono hgv), (unhide HBV).trans (hb.mono (Nat.le_of_lt hgv))⟩
        simp [bv]
end Go.Proofs.YtbahnkomdndmkacDoor
