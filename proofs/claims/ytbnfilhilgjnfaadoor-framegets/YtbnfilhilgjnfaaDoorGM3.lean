/- The message that bytes are, and what is put is got. -/
import Derived.Test.YtbnfilhilgjnfaaDoorQB
import Derived.Test.YtbnfilhilgjnfaaDoorGOpn
import Derived.Test.YtbnfilhilgjnfaaDoorGPu0
namespace Go.Proofs.YtbnfilhilgjnfaaDoor
set_option linter.unusedVariables false
set_option linter.unusedSimpArgs false
set_option maxRecDepth 100000
open Go.ChangeShapes Go.WideShapes Go.ChangeAt Go.RowKit Go.Joins

namespace Ed
def ptc (l : List Pt) : List Value := l.flatMap pcs
theorem ptc_len (l : List Pt) : (ptc l).length = l.length * 3 := by
  induction l with
  | nil => rfl
  | cons p l ih => simp only [ptc, List.flatMap_cons, List.length_append, List.length_cons] at ih ⊢; rw [ih]; simp [pcs]; omega
theorem ptc_snoc (l : List Pt) (p : Pt) : ptc (l ++ [p]) = ptc l ++ pcs p := by simp [ptc]
theorem ptc_at : ∀ (l : List Pt) (i : Nat) (p : Pt), l[i]? = some p → (ptc l)[i * 3]? = some (.int .i64 p.kind) ∧ (ptc l)[i * 3 + 1]? = some (.int .i64 p.n) ∧ (ptc l)[i * 3 + 2]? = some (.string p.text)
  | [], i, p, h => by simp at h
  | q :: l, 0, p, h => by
    obtain rfl : q = p := by simpa using h
    exact ⟨rfl, rfl, rfl⟩
  | q :: l, i + 1, p, h => by
    have ih := ptc_at l i p (by simpa using h)
    have e : ∀ j, (ptc (q :: l))[(i + 1) * 3 + j]? = (ptc l)[i * 3 + j]? := fun j => by
      show (pcs q ++ ptc l)[(i + 1) * 3 + j]? = _
      rw [List.getElem?_append_right (by simp [pcs]; omega)]
      congr 1
      simp [pcs]
      omega
    have e0 := e 0
    simp only [Nat.add_zero] at e0
    rw [e0, e 1, e 2]
    exact ih
theorem infoPart : ∃ i, Tryd.prog.info? 44 = some i ∧ i.zero = some (.agg #[.int .i64 0, .int .i64 0, .string ⟨#[]⟩]) ∧ i.size = 3 ∧ i.bytes = 32 := info_parts (by kernel_rfl)
def OwnP (w : World) (B : Nat) (v : Value) (l : List Pt) : Prop := w.ownsRow B 44 3 v l.length (ptc l)
theorem OwnP.call {w w' : World} {B : Nat} {v : Value} {l : List Pt} (h : OwnP w B v l) (hb : Below w.heap.size w w') : OwnP w' B v l := own_call h hb
theorem OwnP.nil (w : World) (B : Nat) : OwnP w B (.slice none 0 0) [] := World.ownsRow_nil _ _ _ _
theorem OwnP.slice {w : World} {B : Nat} {v : Value} {l : List Pt} (h : OwnP w B v l) : ∃ a c, v = .slice a l.length c ∧ PtsAt w a l ∧ l.length ≤ c ∧ c ≤ maxLen := by
  rcases h.2 with ⟨rfl, h0⟩ | ⟨g, cap, cur, rfl, h1, h2, h3, h4, h5, h6⟩
  · exact ⟨none, 0, by rw [h0], .inl (List.length_eq_zero_iff.1 h0), by omega, by unfold maxLen; omega⟩
  · refine ⟨_, _, rfl, ?_, h3, h4⟩
    by_cases hl : l = []
    · exact .inl hl
    · refine .inr ⟨g, 0, rfl, (Array.getElem?_eq_some_iff.1 h2).1, fun i p hp => ?_⟩
      obtain ⟨q0, q1, q2⟩ := ptc_at l i p hp
      have hc : ∀ j u, (ptc l)[j]? = some u → w.cell? ⟨g, j, none⟩ = some u := fun j u hu => by
        have := World.ownsRow.cells h (g := g) rfl j u hu
        simpa [Addr.add_lit] using this
      rw [Nat.zero_add]
      exact ⟨hc _ _ q0, hc _ _ q1, hc _ _ q2⟩
theorem ptc_one (l : List Pt) : ∀ u ∈ ptc l, u.oneCell' = true := by
  induction l with
  | nil => intro u h; cases h
  | cons p l ih =>
    intro u hu
    rcases List.mem_append.1 (show u ∈ pcs p ++ ptc l from hu) with h | h
    · simp only [pcs, List.mem_cons, List.not_mem_nil, or_false] at h
      rcases h with rfl | rfl | rfl <;> rfl
    · exact ih u h

end Ed
theorem own_oth {w w' : World} {b s n g : Nat} {e : TypeId} {v : Value} {xs : List Value} (h : w.ownsRow b e s v n xs) (hg : g < b) (ho : Oc.Oth w w' g) : w'.ownsRow b e s v n xs := by
  obtain ⟨h1, h2⟩ := h
  refine ⟨h1, ?_⟩
  rcases h2 with h2 | ⟨g', cap, cur, e1, e2, e3, e4⟩
  · exact .inl h2
  · have hlt : g' < w.heap.size := by
      rcases Nat.lt_or_ge g' w.heap.size with hlt | hge
      · exact hlt
      · rw [Array.getElem?_eq_none hge] at e3; cases e3
    exact .inr ⟨g', cap, cur, e1, e2, (ho g' hlt (by omega)).trans e3, e4⟩
theorem utabs_low {w w' : World} {g : Nat} (h : Lib.Utf8Tabs 2 3 w) (hb : Below g w w') (hg : 4 ≤ g) : Lib.Utf8Tabs 2 3 w' :=
  ⟨fun c hc => by rw [hb.cell (p := ⟨2, c, none⟩) (show 2 < g by omega)]; exact h.1 c hc, fun i hi => by
    rw [hb.cell (p := ⟨3, _, none⟩) (show 3 < g by omega), hb.cell (p := ⟨3, _, none⟩) (show 3 < g by omega)]; exact h.2 i hi⟩
/-- a part that is read -/
def partR (l : List Nat) (k : Nat) (e : Int) : Ed.Pt × Nat × Int :=
  (⟨(Oc.numR l k e).1, (Oc.numR l (Oc.numR l k e).2.1 (Oc.numR l k e).2.2).1, (Oc.textR l 256 (Oc.numR l (Oc.numR l k e).2.1 (Oc.numR l k e).2.2).2.1 (Oc.numR l (Oc.numR l k e).2.1 (Oc.numR l k e).2.2).2.2).1⟩, (Oc.textR l 256 (Oc.numR l (Oc.numR l k e).2.1 (Oc.numR l k e).2.2).2.1 (Oc.numR l (Oc.numR l k e).2.1 (Oc.numR l k e).2.2).2.2).2)
def partsR (l : List Nat) (k : Nat) (e : Int) : Nat → List Ed.Pt × Nat × Int
  | 0 => ([], k, e)
  | m + 1 => ((partsR l k e m).1 ++ [(partR l (partsR l k e m).2.1 (partsR l k e m).2.2).1], (partR l (partsR l k e m).2.1 (partsR l k e m).2.2).2)
theorem partsR_len (l : List Nat) (k : Nat) (e : Int) (m : Nat) : (partsR l k e m).1.length = m := by
  induction m with
  | zero => rfl
  | succ m ih => simp [partsR, ih]
def editR (l : List Nat) (k : Nat) (e : Int) : List Ed.Pt × Nat × Int := partsR l (Oc.winR l 0 400 k e).2.1 (Oc.winR l 0 400 k e).2.2 (Oc.winR l 0 400 k e).1.toNat
theorem winR_bound (l : List Nat) (k : Nat) (e : Int) : 0 ≤ (Oc.winR l 0 400 k e).1 ∧ (Oc.winR l 0 400 k e).1 ≤ 400 := by
  unfold Oc.winR
  split
  · simp
  · split
    · simp
    · split
      · simp
      · rename_i h; exact ⟨by simp, by simp only; omega⟩
def RdE (l : List Nat) (w : World) (g : Nat) (a : Option Addr) (n cap : Nat) (k : Nat) (e : Int) (r : Ending) (w' : World) : Prop :=
  ∃ v, r = .returned v ∧ Ed.OwnP w' w.heap.size v (editR l k e).1 ∧ Oc.RdS w' g a n cap l (editR l k e).2.1 (editR l k e).2.2 ∧ Oc.Stp w w' g
set_option maxHeartbeats 4000000 in
theorem readEdit_any (g : Nat) (a : Option Addr) (n cap : Nat) (l : List Nat) (k : Nat) (e : Int) (w : World) (hT : Lib.Utf8Tabs 2 3 w) (hg2 : 4 ≤ g) (hS : Oc.RdS w g a n cap l k e) :
    Calls Tryd.prog 38 #[.pointer (some ⟨g, 0, none⟩)] w fun r w' => RdE l w g a n cap k e r w' := by
  have HS := hide hS
  have HT := hide hT
  have HWB := hide (winR_bound l k e)
  have HGB := hide hS.lt
  clear hS hT
  go_enter Tryd.func38, Tryd.ntmps38
  go_wp2_with fail
  refine Calls.mono (Oc.within_tot g a n cap l k e 0 400 w (unhide HS)) ?_
  rintro r w1 ⟨rfl, s1, t1⟩
  have HS1 := hide s1
  have HT1 := hide t1
  clear s1 t1
  obtain ⟨cn, hcn⟩ : ∃ cn : Nat, (Oc.winR l 0 400 k e).1 = (cn : Int) := ⟨(Oc.winR l 0 400 k e).1.toNat, by have := unhide HWB; omega⟩
  have hc4 : cn ≤ 400 := by have := unhide HWB; omega
  have HER : Hid (editR l k e = partsR l (Oc.winR l 0 400 k e).2.1 (Oc.winR l 0 400 k e).2.2 cn) := hide (by unfold editR; rw [hcn, Int.toNat_natCast])
  rw [hcn]
  clear hcn
  obtain ⟨k1, hk1⟩ : ∃ z, (Oc.winR l 0 400 k e).2.1 = z := ⟨_, rfl⟩
  obtain ⟨e1, he1⟩ : ∃ z, (Oc.winR l 0 400 k e).2.2 = z := ⟨_, rfl⟩
  rw [hk1, he1] at HS1 HER
  clear hk1 he1
  go_wp2_with fail
  go_loopw [3, 6] (fun v i wr => ∃ j : Nat, j ≤ cn ∧ i = .int .i64 (j : Int) ∧ Hid (Ed.OwnP wr w.heap.size v (partsR l k1 e1 j).1) ∧ Hid (Oc.RdS wr g a n cap l (partsR l k1 e1 j).2.1 (partsR l k1 e1 j).2.2) ∧ Hid (Oc.Stp w wr g)) (fun _ i _ => ((cn : Int) - intOf i).toNat)
  case atStart => exact ⟨0, by omega, by simp, hide (Ed.OwnP.nil _ _), HS1, HT1⟩
  case round =>
    obtain ⟨j, hj, rfl, HOW, HSW, HTW⟩ := hrel
    by_cases hlt : j < cn
    · have jI : (j : Int) < (cn : Int) := by omega
      have HNX : Hid ((partsR l k1 e1 (j + 1)).1 = (partsR l k1 e1 j).1 ++ [(partR l (partsR l k1 e1 j).2.1 (partsR l k1 e1 j).2.2).1] ∧ (partsR l k1 e1 (j + 1)).2 = (partR l (partsR l k1 e1 j).2.1 (partsR l k1 e1 j).2.2).2) := hide ⟨rfl, rfl⟩
      have HLN := hide (partsR_len l k1 e1 j)
      obtain ⟨ps, hps⟩ : ∃ z, (partsR l k1 e1 j).1 = z := ⟨_, rfl⟩
      obtain ⟨kj, hkj⟩ : ∃ z, (partsR l k1 e1 j).2.1 = z := ⟨_, rfl⟩
      obtain ⟨ej, hej⟩ : ∃ z, (partsR l k1 e1 j).2.2 = z := ⟨_, rfl⟩
      rw [hps] at HOW HNX HLN
      rw [hkj, hej] at HSW HNX
      clear hps hkj hej
      have HA := hide (Oc.number_tot g a n cap l kj ej wr (unhide HSW))
      unfold partR at HNX
      obtain ⟨xa, hxa⟩ : ∃ z, Oc.numR l kj ej = z := ⟨_, rfl⟩
      rw [hxa] at HA HNX
      clear hxa
      obtain ⟨va, ka, ea⟩ := xa
      obtain ⟨xb, hxb⟩ : ∃ z, Oc.numR l ka ea = z := ⟨_, rfl⟩
      have HXB := hide hxb
      simp only [hxb] at HNX
      clear hxb
      obtain ⟨vb, kb, eb⟩ := xb
      obtain ⟨xc, hxc⟩ : ∃ z, Oc.textR l 256 kb eb = z := ⟨_, rfl⟩
      have HXC := hide hxc
      simp only [hxc] at HNX
      clear hxc
      obtain ⟨vc, kc, ec⟩ := xc
      simp only at HNX
      go_wp2_with fail
      refine Calls.mono (unhide HA) ?_
      rintro r w2 ⟨rfl, s2, t2⟩
      have HS2 := hide s2
      have HT2 := hide ((unhide HTW).trans t2)
      have HB := hide (Oc.number_tot g a n cap l ka ea w2 s2)
      rw [unhide HXB] at HB
      have HO2 := hide (own_oth (unhide HOW) (unhide HGB) t2.oth)
      clear s2 t2 HA HSW HOW HTW
      go_wp2_with fail
      refine Calls.mono (unhide HB) ?_
      rintro r w3 ⟨rfl, s3, t3⟩
      have HO3 := hide (own_oth (unhide HO2) (unhide HGB) t3.oth)
      have HT3 := hide ((unhide HT2).trans t3)
      have HC := hide (Oc.text_tot g a n cap l kb 256 eb w3 (utabs_low (unhide HT) (unhide HT3).low hg2) s3 (by omega))
      rw [unhide HXC] at HC
      clear s3 t3 HB HS2 HO2 HT2
      go_wp2_with fail
      refine Calls.mono (unhide HC) ?_
      rintro r w4 ⟨rfl, s4, t4⟩
      have HO4 := hide (own_oth (unhide HO3) (unhide HGB) t4.oth)
      have HT4 := hide ((unhide HT3).trans t4)
      have HS4 := hide s4
      clear s4 t4 HC HO3 HT3
      have b5 : Below w4.heap.size w4 (w4.alloc (.cells #[.int .i64 va, .int .i64 vb, .string vc] 44)) := (Below.refl _ _).alloc (Nat.le_refl _) _
      have R5 := RowAt.new w4 44 [.int .i64 va, .int .i64 vb, .string vc]
      have HO5 := hide ((unhide HO4 : Ed.OwnP w4 w.heap.size u3 ps).call b5)
      have HS5 := hide ((unhide HS4).call b5)
      have HT5 := hide ((unhide HT4).trans (Oc.Stp.of_below (Nat.le_of_lt (unhide HS4).lt) b5))
      have HR5 : Hid (∀ (b : Addr), some ⟨w4.heap.size, 0, none⟩ = some b → ∀ (j : Nat) (u : Value), (Ed.pcs ⟨va, vb, vc⟩)[j]? = some u → (w4.alloc (.cells #[.int .i64 va, .int .i64 vb, .string vc] 44)).cell? (b.add j) = some u) := hide (fun b hb j u hu => by
        cases hb
        rw [Addr.add_lit, R5.cell, Nat.zero_add]
        exact hu)
      have HSB : Hid (w.heap.size ≤ (w4.alloc (.cells #[.int .i64 va, .int .i64 vb, .string vc] 44)).heap.size) := hide (Nat.le_trans (unhide HT4).low.size b5.size)
      clear b5 R5 HO4 HS4 HT4
      obtain ⟨i0, hi, hz0, hz1, hz2⟩ := Ed.infoPart
      go_wp2_with (at_builtin; refine wpList_append_src _ rfl _ _ 23 rfl w.heap.size 44 i0 (.agg #[.int .i64 0, .int .i64 0, .string ⟨#[]⟩]) 3 32 Tryd.underlying23 hi hz0 hz1 hz2 (by simp [Value.cells]) (by decide) _ _ _ rfl (unhide HO5) (some ⟨w4.heap.size, 0, none⟩) 1 1 (Ed.pcs ⟨va, vb, vc⟩) rfl (by rfl) (fun h => by cases h) (unhide HR5) ?c2 ?c3 ?c4 (unhide HSB) ?_)
      case c2 =>
        intro u hu
        simp only [Ed.pcs, List.mem_cons, List.not_mem_nil, or_false] at hu
        rcases hu with rfl | rfl | rfl <;> rfl
      case c3 => rw [unhide HLN]; unfold maxLen; omega
      case c4 => rw [unhide HLN]; omega
      intro ad6 cap6 w6 O6 g6
      generalize w4.alloc (.cells #[.int .i64 va, .int .i64 vb, .string vc] 44) = w5 at *
      have HB6 : Hid (Below w.heap.size w5 w6) := hide ((Below.refl _ _).grown g6 (unhide HSB) (fun k hk => ((unhide HO5).lt k hk).1))
      have HO6 : Hid (Ed.OwnP w6 w.heap.size (.slice ad6 (ps.length + 1) cap6) (ps ++ [⟨va, vb, vc⟩])) := hide (by
        unfold Ed.OwnP
        rw [List.length_append, Ed.ptc_snoc]
        exact O6)
      have HS6 := hide ((unhide HS5).step ((unhide HB6).mono (Nat.le_of_lt (unhide HGB))) ((unhide HS5).rdr.below ((unhide HB6).mono (unhide HGB))) (unhide HS5).le)
      have HT6 : Hid (Oc.Stp w w6 g) := hide ⟨(unhide HT5).low.trans ((unhide HB6).mono (Nat.le_of_lt (unhide HGB))), fun j hj hjg => ((unhide HB6).block j hj).trans ((unhide HT5).oth j hj hjg)⟩
      clear O6 g6 HO5 HS5 HT5 HR5
      go_wp2_with fail
      exact ⟨⟨j + 1, by omega, by simp, by rw [(unhide HNX).1]; exact HO6, by rw [(unhide HNX).2]; exact HS6, HT6⟩, by simp [intOf]; omega⟩
    · obtain rfl : cn = j := by omega
      have jI : ¬ (cn : Int) < (cn : Int) := by omega
      go_wp2_with fail
      go_ret
      exact ⟨_, rfl, by rw [unhide HER]; exact unhide HOW, by rw [unhide HER]; exact unhide HSW, unhide HTW⟩
end Go.Proofs.YtbnfilhilgjnfaaDoor

namespace Go.Proofs.YtbnfilhilgjnfaaDoor
set_option linter.unusedVariables false
set_option linter.unusedSimpArgs false
set_option maxRecDepth 100000
open Go.ChangeShapes Go.WideShapes Go.ChangeAt Go.RowKit Go.Joins

/-- where a reader stands behind so many numbers -/
def nSt (l : List Nat) : Nat → Nat × Int
  | 0 => (0, 0)
  | i + 1 => (Oc.numR l (nSt l i).1 (nSt l i).2).2
def nVal (l : List Nat) (i : Nat) : Int := (Oc.numR l (nSt l i).1 (nSt l i).2).1
theorem num_at (l : List Nat) (i : Nat) (g : Nat) (a : Option Addr) (n cap : Nat) (w : World) (hS : Oc.RdS w g a n cap l (nSt l i).1 (nSt l i).2) :
    Calls Tryd.prog 37 #[.pointer (some ⟨g, 0, none⟩)] w fun r w' => r = .returned (.int .i64 (nVal l i)) ∧ Oc.RdS w' g a n cap l (nSt l (i + 1)).1 (nSt l (i + 1)).2 ∧ Oc.Stp w w' g := Oc.number_tot g a n cap l _ _ w hS
def gEd (l : List Nat) : List Ed.Pt := (editR l (nSt l 8).1 (nSt l 8).2).1
def gFin (l : List Nat) : Nat × Int := (editR l (nSt l 8).1 (nSt l 8).2).2
def GetOk (l : List Nat) : Prop := Oc.endE l.length (gFin l).1 (gFin l).2 = 0 ∧ MsgOk (nVal l 0) (nsF (nVal l 1) (nVal l 2) (nVal l 3) (nVal l 4) (nVal l 5) (nVal l 6) (nVal l 7)) (gEd l)
def GtR (l : List Nat) (w : World) (r : Ending) (w' : World) : Prop := Below w.heap.size w w' ∧ (GetOk l → ∃ a c, r = .returned (.tuple #[msgV (nVal l 0) (nVal l 1) (nVal l 2) (nVal l 3) (nVal l 4) (nVal l 5) (nVal l 6) (nVal l 7) (.slice a (gEd l).length c), .int .i64 0]) ∧ Ed.PtsAt w' a (gEd l)) ∧ (¬ GetOk l → r = .returned (.tuple #[msgV 0 0 0 0 0 0 0 0 (.slice none 0 0), .int .i64 120]))
theorem bodyT_size (l : List Nat) (k : Nat) : (Oc.bodyT l k).size ≤ l.length := by
  unfold Oc.bodyT
  rw [Oc.strOf_size, List.length_take, List.length_drop]
  omega
theorem textR_size (l : List Nat) (q k : Nat) (e : Int) : (Oc.textR l q k e).1.size ≤ l.length := by
  unfold Oc.textR
  repeat' split
  all_goals first | exact Nat.zero_le _ | exact bodyT_size l k
theorem partsR_size (l : List Nat) (k : Nat) (e : Int) (m : Nat) : ∀ p ∈ (partsR l k e m).1, p.text.size ≤ l.length := by
  induction m with
  | zero => intro p hp; cases hp
  | succ m ih =>
    intro p hp
    rcases List.mem_append.1 (show p ∈ (partsR l k e m).1 ++ [(partR l (partsR l k e m).2.1 (partsR l k e m).2.2).1] from hp) with h | h
    · exact ih p h
    · obtain rfl := List.mem_singleton.1 h
      exact textR_size l 256 _ _
theorem gEd_size (l : List Nat) : ∀ p ∈ gEd l, p.text.size ≤ l.length := partsR_size l _ _ _
theorem gEd_len (l : List Nat) : (gEd l).length ≤ 400 := by
  unfold gEd editR
  rw [partsR_len]
  have := winR_bound l (nSt l 8).1 (nSt l 8).2
  omega
theorem utabs_here {w : World} (h : GLay w) : Lib.Utf8Tabs 2 3 w := by
  have q := h.2.2
  unfold Ed.UT at q
  rw [show Ed.Tryd.lays196_ren.g 3 = 2 by kernel_rfl, show Ed.Tryd.lays196_ren.g 4 = 3 by kernel_rfl] at q
  exact q
theorem pts_set {w : World} {a : Option Addr} {l : List Ed.Pt} {g : Nat} {E : Array Value} (h : Ed.PtsAt w a l) (hg : ∀ b off, a = some ⟨b, off, none⟩ → g < b) : Ed.PtsAt (w.setRow g E) a l := by
  rcases h with h | ⟨b, off, rfl, hlt, hc⟩
  · exact .inl h
  · have hne : b ≠ g := by have := hg b off rfl; omega
    have hbl : (w.setRow g E).heap[b]? = w.heap[b]? := setRow_other _ _ _ _ hne
    refine .inr ⟨b, off, rfl, by simpa [World.setRow] using hlt, fun i p hp => ?_⟩
    obtain ⟨q0, q1, q2⟩ := hc i p hp
    exact ⟨by rw [World.cell?_of_block (w := w) (a := ⟨b, _, none⟩) hbl]; exact q0, by rw [World.cell?_of_block (w := w) (a := ⟨b, _, none⟩) hbl]; exact q1, by rw [World.cell?_of_block (w := w) (a := ⟨b, _, none⟩) hbl]; exact q2⟩
theorem z25 : (Tryd.prog.info? 25).map (·.size) = some 9 := by kernel_rfl
theorem GLay.seven {w : World} (h : GLay w) : 7 ≤ w.heap.size := h.1.1.1.2.lt
set_option maxHeartbeats 8000000 in
theorem get_any (v : Value) (l : List Nat) (w : World) (hL : GLay w) (hv : Byt w v l) (h8 : U8 l) (hl : l.length ≤ 100000000) :
    Calls Tryd.prog 18 #[v] w fun r w' => GtR l w r w' := by
  have h7 := hL.seven
  have b0 : Below w.heap.size w (w.alloc (.cells #[.int .i64 0, .int .i64 0, .int .i64 0, .int .i64 0, .int .i64 0, .int .i64 0, .int .i64 0, .int .i64 0, .slice none 0 0] 25)) := (Below.refl _ _).alloc (Nat.le_refl _) _
  have HRD := hide (Oc.read_any v l (w.alloc (.cells #[.int .i64 0, .int .i64 0, .int .i64 0, .int .i64 0, .int .i64 0, .int .i64 0, .int .i64 0, .int .i64 0, .slice none 0 0] 25)) (hv.call b0) (by omega))
  have HRZ := hide (RowAt.new w 25 [.int .i64 0, .int .i64 0, .int .i64 0, .int .i64 0, .int .i64 0, .int .i64 0, .int .i64 0, .int .i64 0, .slice none 0 0])
  have HB0 := hide b0
  have HL := hide hL
  have H8 := hide h8
  have HS0 : Hid ((w.alloc (.cells #[.int .i64 0, .int .i64 0, .int .i64 0, .int .i64 0, .int .i64 0, .int .i64 0, .int .i64 0, .int .i64 0, .slice none 0 0] 25)).heap.size = w.heap.size + 1) := hide (by simp)
  clear b0 hL hv h8
  go_enter Tryd.func18, Tryd.ntmps18
  go_wp2_with fail
  generalize w.alloc (.cells #[.int .i64 0, .int .i64 0, .int .i64 0, .int .i64 0, .int .i64 0, .int .i64 0, .int .i64 0, .int .i64 0, .slice none 0 0] 25) = wZ at *
  refine Calls.mono (unhide HRD) ?_
  rintro r w0 ⟨v0, g, rfl, hg, rd0, by0, lw0, bl0⟩
  obtain ⟨a, cap, rfl⟩ := Oc.byt_shape by0
  obtain ⟨n, hn⟩ : ∃ n, l.length = n := ⟨_, rfl⟩
  have HN := hide hn
  rw [hn] at rd0 by0 lw0
  have hgb : w.heap.size < g := by have := unhide HS0; omega
  have HGB := hide hgb
  have HS_0 : Hid (Oc.RdS w0 g a n cap l (nSt l 0).1 (nSt l 0).2) := hide ⟨by0, rd0, lw0, by omega, Nat.zero_le _, unhide H8⟩
  have HB_0 : Hid (Below w.heap.size w w0) := hide ((unhide HB0).trans (bl0.mono (unhide HB0).size))
  have HR_0 := hide ((unhide HRZ).below bl0 (unhide HRZ).lt)
  clear rd0 by0 lw0 bl0 hg hn HRD
  go_wp2_with fail
  refine Calls.mono (num_at l 0 g a n cap w0 (unhide HS_0)) ?_
  rintro r w1 ⟨rfl, s1, t1⟩
  have HS_1 := hide s1
  have HB_1 := hide ((unhide HB_0).trans (t1.low.mono (Nat.le_of_lt (unhide HGB))))
  have HR_1 := hide ((unhide HR_0).below t1.low (unhide HGB))
  obtain ⟨y0, hy0⟩ : ∃ z, nVal l 0 = z := ⟨_, rfl⟩
  rw [hy0]
  have HY0 := hide hy0
  clear s1 t1 hy0 HS_0 HB_0 HR_0
  go_wp2_with fail
  refine Calls.mono (num_at l 1 g a n cap w1 (unhide HS_1)) ?_
  rintro r w2 ⟨rfl, s2, t2⟩
  have HS_2 := hide s2
  have HB_2 := hide ((unhide HB_1).trans (t2.low.mono (Nat.le_of_lt (unhide HGB))))
  have HR_2 := hide ((unhide HR_1).below t2.low (unhide HGB))
  obtain ⟨y1, hy1⟩ : ∃ z, nVal l 1 = z := ⟨_, rfl⟩
  rw [hy1]
  have HY1 := hide hy1
  clear s2 t2 hy1 HS_1 HB_1 HR_1
  go_wp2_with fail
  refine Calls.mono (num_at l 2 g a n cap w2 (unhide HS_2)) ?_
  rintro r w3 ⟨rfl, s3, t3⟩
  have HS_3 := hide s3
  have HB_3 := hide ((unhide HB_2).trans (t3.low.mono (Nat.le_of_lt (unhide HGB))))
  have HR_3 := hide ((unhide HR_2).below t3.low (unhide HGB))
  obtain ⟨y2, hy2⟩ : ∃ z, nVal l 2 = z := ⟨_, rfl⟩
  rw [hy2]
  have HY2 := hide hy2
  clear s3 t3 hy2 HS_2 HB_2 HR_2
  go_wp2_with fail
  refine Calls.mono (num_at l 3 g a n cap w3 (unhide HS_3)) ?_
  rintro r w4 ⟨rfl, s4, t4⟩
  have HS_4 := hide s4
  have HB_4 := hide ((unhide HB_3).trans (t4.low.mono (Nat.le_of_lt (unhide HGB))))
  have HR_4 := hide ((unhide HR_3).below t4.low (unhide HGB))
  obtain ⟨y3, hy3⟩ : ∃ z, nVal l 3 = z := ⟨_, rfl⟩
  rw [hy3]
  have HY3 := hide hy3
  clear s4 t4 hy3 HS_3 HB_3 HR_3
  go_wp2_with fail
  refine Calls.mono (num_at l 4 g a n cap w4 (unhide HS_4)) ?_
  rintro r w5 ⟨rfl, s5, t5⟩
  have HS_5 := hide s5
  have HB_5 := hide ((unhide HB_4).trans (t5.low.mono (Nat.le_of_lt (unhide HGB))))
  have HR_5 := hide ((unhide HR_4).below t5.low (unhide HGB))
  obtain ⟨y4, hy4⟩ : ∃ z, nVal l 4 = z := ⟨_, rfl⟩
  rw [hy4]
  have HY4 := hide hy4
  clear s5 t5 hy4 HS_4 HB_4 HR_4
  go_wp2_with fail
  refine Calls.mono (num_at l 5 g a n cap w5 (unhide HS_5)) ?_
  rintro r w6 ⟨rfl, s6, t6⟩
  have HS_6 := hide s6
  have HB_6 := hide ((unhide HB_5).trans (t6.low.mono (Nat.le_of_lt (unhide HGB))))
  have HR_6 := hide ((unhide HR_5).below t6.low (unhide HGB))
  obtain ⟨y5, hy5⟩ : ∃ z, nVal l 5 = z := ⟨_, rfl⟩
  rw [hy5]
  have HY5 := hide hy5
  clear s6 t6 hy5 HS_5 HB_5 HR_5
  go_wp2_with fail
  refine Calls.mono (num_at l 6 g a n cap w6 (unhide HS_6)) ?_
  rintro r w7 ⟨rfl, s7, t7⟩
  have HS_7 := hide s7
  have HB_7 := hide ((unhide HB_6).trans (t7.low.mono (Nat.le_of_lt (unhide HGB))))
  have HR_7 := hide ((unhide HR_6).below t7.low (unhide HGB))
  obtain ⟨y6, hy6⟩ : ∃ z, nVal l 6 = z := ⟨_, rfl⟩
  rw [hy6]
  have HY6 := hide hy6
  clear s7 t7 hy6 HS_6 HB_6 HR_6
  go_wp2_with fail
  refine Calls.mono (num_at l 7 g a n cap w7 (unhide HS_7)) ?_
  rintro r w8 ⟨rfl, s8, t8⟩
  have HS_8 := hide s8
  have HB_8 := hide ((unhide HB_7).trans (t8.low.mono (Nat.le_of_lt (unhide HGB))))
  have HR_8 := hide ((unhide HR_7).below t8.low (unhide HGB))
  obtain ⟨y7, hy7⟩ : ∃ z, nVal l 7 = z := ⟨_, rfl⟩
  rw [hy7]
  have HY7 := hide hy7
  clear s8 t8 hy7 HS_7 HB_7 HR_7
  go_wp2_with fail
  refine Calls.mono (readEdit_any g a n cap l _ _ w8 (utabs_here ((unhide HL).below (unhide HB_8))) (by omega) (unhide HS_8)) ?_
  rintro r w9 ⟨ve, rfl, oe, se, te⟩
  obtain ⟨ae, ce, rfl, pe, _, _⟩ := oe.slice
  have HPE : Hid (Ed.PtsAt w9 ae (gEd l)) := hide pe
  have HGP : Hid (∀ b off, ae = some ⟨b, off, none⟩ → w.heap.size < b) := hide (fun b off e => by
    rcases oe.2 with ⟨e2, _⟩ | ⟨g', c', cur, e2, hb, _⟩
    · injection e2 with e3 _ _; rw [e] at e3; cases e3
    · injection e2 with e3 _ _; rw [e] at e3; cases e3; exact Nat.lt_of_lt_of_le (unhide HR_8).lt hb)
  have HSE : Hid (Oc.RdS w9 g a n cap l (gFin l).1 (gFin l).2) := hide se
  have HB_9 := hide ((unhide HB_8).trans (te.low.mono (Nat.le_of_lt (unhide HGB))))
  have HR_9 := hide ((unhide HR_8).below te.low (unhide HGB))
  have HEL := hide (gEd_len l)
  have HES := hide (gEd_size l)
  rw [show (editR l (nSt l 8).1 (nSt l 8).2).1 = gEd l from rfl]
  obtain ⟨en, hen⟩ : ∃ z, (gEd l).length = z := ⟨_, rfl⟩
  rw [hen] at HEL ⊢
  have HEN := hide hen
  clear oe pe se te hen HS_8 HB_8 HR_8
  have b10 : Below w9.heap.size w9 (w9.alloc (.cells #[.int .i64 y0, .int .i64 y1, .int .i64 y2, .int .i64 y3, .int .i64 y4, .int .i64 y5, .int .i64 y6, .int .i64 y7, .slice ae en ce] 25)) := (Below.refl _ _).alloc (Nat.le_refl _) _
  have HF := hide (RowAt.new w9 25 [.int .i64 y0, .int .i64 y1, .int .i64 y2, .int .i64 y3, .int .i64 y4, .int .i64 y5, .int .i64 y6, .int .i64 y7, .slice ae en ce])
  have HB_10 := hide ((unhide HB_9).trans (b10.mono (unhide HB_9).size))
  have HR_10 := hide ((unhide HR_9).below b10 (unhide HR_9).lt)
  have HSX := hide ((unhide HSE).call b10)
  have HPX := hide ((unhide HPE).call b10)
  have HGF : Hid (w.heap.size < w9.heap.size) := hide (unhide HR_9).lt
  clear b10 HSE HPE HB_9 HR_9
  go_wp2_with fail
  obtain ⟨gf, hgf⟩ : ∃ z, w9.heap.size = z := ⟨_, rfl⟩
  rw [hgf] at HF HGF
  try rw [hgf]
  generalize w9.alloc (.cells #[.int .i64 y0, .int .i64 y1, .int .i64 y2, .int .i64 y3, .int .i64 y4, .int .i64 y5, .int .i64 y6, .int .i64 y7, .slice ae en ce] 25) = w10 at *
  clear hgf
  refine Calls.mono (Oc.end_tot g a n cap l _ _ w10 (unhide HSX)) ?_
  rintro r w11 ⟨rfl, dq, rfl⟩
  have b11 : Below w10.heap.size w10 (w10.drewN dq) := Joins.below_draws _ _ dq
  have HB_11 := hide ((unhide HB_10).trans (b11.mono (unhide HB_10).size))
  have HR_11 := hide ((unhide HR_10).below b11 (unhide HR_10).lt)
  have HF11 := hide ((unhide HF).below b11 (unhide HF).lt)
  have HP11 := hide ((unhide HPX).call b11)
  generalize w10.drewN dq = w11 at *
  clear b11 HB_10 HR_10 HF HPX HSX
  obtain ⟨ez, hez⟩ : ∃ z, Oc.endE n (gFin l).1 (gFin l).2 = z := ⟨_, rfl⟩
  rw [hez]
  have HEZ : Hid (Oc.endE l.length (gFin l).1 (gFin l).2 = ez) := hide (by rw [unhide HN]; exact hez)
  clear hez
  obtain ⟨Z, hZ⟩ : ∃ E : Array Value, ([.int .i64 0, .int .i64 0, .int .i64 0, .int .i64 0, .int .i64 0, .int .i64 0, .int .i64 0, .int .i64 0, .slice none 0 0] : List Value).toArray = E := ⟨_, rfl⟩
  have HZZ := hide hZ
  have HZS : Hid (Z.size = 9) := hide (by rw [← hZ]; rfl)
  have HZO : Hid (Z.all (·.oneCell') = true) := hide (by rw [← hZ]; simp only [List.all_toArray, List.all_cons, List.all_nil, Bool.and_true]; rfl)
  by_cases hz0 : ez = 0
  · subst hz0
    have hzb : ((0 : Int) != 0) = false := rfl
    have HCK := hide (check_any y0 y1 y2 y3 y4 y5 y6 y7 ae (gEd l) ce w11 ((unhide HL).below (unhide HB_11)).1.2 ((unhide HL).below (unhide HB_11)).2.1 ((unhide HL).below (unhide HB_11)).2.2 (unhide HP11) (by rw [unhide HEN]; have := unhide HEL; omega) (fun p hp => by have := unhide HES p hp; have := unhide HN; omega))
    rw [unhide HEN] at HCK
    unfold msgV at HCK
    have c0 : w11.cell? ⟨gf, 0, none⟩ = some (.int .i64 y0) := (unhide HF11).cell 0
    have c1 : w11.cell? ⟨gf, 1, none⟩ = some (.int .i64 y1) := (unhide HF11).cell 1
    have c2 : w11.cell? ⟨gf, 2, none⟩ = some (.int .i64 y2) := (unhide HF11).cell 2
    have c3 : w11.cell? ⟨gf, 3, none⟩ = some (.int .i64 y3) := (unhide HF11).cell 3
    have c4 : w11.cell? ⟨gf, 4, none⟩ = some (.int .i64 y4) := (unhide HF11).cell 4
    have c5 : w11.cell? ⟨gf, 5, none⟩ = some (.int .i64 y5) := (unhide HF11).cell 5
    have c6 : w11.cell? ⟨gf, 6, none⟩ = some (.int .i64 y6) := (unhide HF11).cell 6
    have c7 : w11.cell? ⟨gf, 7, none⟩ = some (.int .i64 y7) := (unhide HF11).cell 7
    have c8 : w11.cell? ⟨gf, 8, none⟩ = some (.slice ae en ce) := (unhide HF11).cell 8
    go_wp2_with fail
    refine Calls.mono (unhide HCK) ?_
    rintro r w12 ⟨zc, rfl, hzc, hiff, b12⟩
    have HB_12 := hide ((unhide HB_11).trans (b12.mono (unhide HB_11).size))
    have HR_12 := hide ((unhide HR_11).below b12 (unhide HR_11).lt)
    have HF12 := hide ((unhide HF11).below b12 (unhide HF11).lt)
    have HP12 := hide ((unhide HP11).call b12)
    have HIF := hide hiff
    clear b12 hiff HB_11 HR_11 HF11 HP11 HCK c0 c1 c2 c3 c4 c5 c6 c7 c8
    rcases hzc with rfl | rfl
    · have HOK : Hid (GetOk l) := hide ⟨unhide HEZ, by rw [unhide HY0, unhide HY1, unhide HY2, unhide HY3, unhide HY4, unhide HY5, unhide HY6, unhide HY7]; exact (unhide HIF).1 rfl⟩
      obtain ⟨E, hE⟩ : ∃ E : Array Value, ([.int .i64 y0, .int .i64 y1, .int .i64 y2, .int .i64 y3, .int .i64 y4, .int .i64 y5, .int .i64 y6, .int .i64 y7, .slice ae en ce] : List Value).toArray = E := ⟨_, rfl⟩
      have HE1 := hide ((unhide HF12).arr hE)
      have HE2 := hide ((unhide HR_12).arr hZ)
      have HEZ9 : Hid (E.size = 9) := hide (by rw [← hE]; rfl)
      have HEO : Hid (E.all (·.oneCell') = true) := hide (by rw [← hE]; simp only [List.all_toArray, List.all_cons, List.all_nil, Bool.and_true]; rfl)
      have HEE := hide hE
      clear hE hZ
      go_wp2_with (first
        | (refine wpList_load_row rfl 25 _ rfl gf (by kernel_rfl) 25 E (0, 0) _ (unhide HE1) Tryd.underlying25 rfl (by rw [z25, unhide HEZ9]) ?_)
        | (refine wpList_store_row rfl 25 _ _ rfl w.heap.size E (by kernel_rfl) (by kernel_rfl) 25 Z (unhide HE2) (by rw [z25, unhide HEZ9]) (by rw [unhide HEZ9, unhide HZS]) (unhide HEO) ?_))
      refine bodyPost_ret (results_row_tmp Tryd.results18 _ _ w.heap.size 25 E (0, 0) _ rfl (setRow_heap _ _ _ _ _ _ (unhide HE2)) Tryd.underlying25 rfl (by rw [z25, unhide HEZ9])) rfl ?_
      have hbf : Below w.heap.size w (w12.setRow w.heap.size E) := Below.trans (unhide HB_12) ⟨rfl, rfl, rfl, by simp [World.setRow], fun k hk => setRow_other _ _ _ _ (by omega)⟩
      refine ⟨hbf, fun _ => ⟨ae, ce, ?_, ?_⟩, fun h => absurd (unhide HOK) h⟩
      · rw [← unhide HEE, unhide HY0, unhide HY1, unhide HY2, unhide HY3, unhide HY4, unhide HY5, unhide HY6, unhide HY7, unhide HEN]
        rfl
      · exact pts_set (unhide HP12) (unhide HGP)
    · have HNO : Hid (¬ GetOk l) := hide (fun h => by
        have h2 := h.2
        rw [unhide HY0, unhide HY1, unhide HY2, unhide HY3, unhide HY4, unhide HY5, unhide HY6, unhide HY7] at h2
        have := (unhide HIF).2 h2
        omega)
      have HE2 := hide ((unhide HR_12).arr hZ)
      clear hZ
      go_wp2_with (first
        | (refine wpList_store_row rfl 25 _ _ rfl w.heap.size Z (by kernel_rfl) (by rw [← unhide HZZ]; rfl) 25 Z (unhide HE2) (by rw [z25, unhide HZS]) rfl (unhide HZO) ?_))
      refine bodyPost_ret (results_row_tmp Tryd.results18 _ _ w.heap.size 25 Z (0, 0) _ rfl (setRow_heap _ _ _ _ _ _ (unhide HE2)) Tryd.underlying25 rfl (by rw [z25, unhide HZS])) rfl ?_
      have hbf : Below w.heap.size w (w12.setRow w.heap.size Z) := Below.trans (unhide HB_12) ⟨rfl, rfl, rfl, by simp [World.setRow], fun k hk => setRow_other _ _ _ _ (by omega)⟩
      exact ⟨hbf, fun h => absurd h (unhide HNO), fun _ => by rw [← unhide HZZ]; rfl⟩
  · have hzb : (ez != 0) = true := by simp [hz0]
    have HNO : Hid (¬ GetOk l) := hide (fun h => hz0 (by rw [← unhide HEZ]; exact h.1))
    have HE2 := hide ((unhide HR_11).arr hZ)
    clear hZ
    go_wp2_with (first
      | (refine wpList_store_row rfl 25 _ _ rfl w.heap.size Z (by kernel_rfl) (by rw [← unhide HZZ]; rfl) 25 Z (unhide HE2) (by rw [z25, unhide HZS]) rfl (unhide HZO) ?_))
    refine bodyPost_ret (results_row_tmp Tryd.results18 _ _ w.heap.size 25 Z (0, 0) _ rfl (setRow_heap _ _ _ _ _ _ (unhide HE2)) Tryd.underlying25 rfl (by rw [z25, unhide HZS])) rfl ?_
    have hbf : Below w.heap.size w (w11.setRow w.heap.size Z) := Below.trans (unhide HB_11) ⟨rfl, rfl, rfl, by simp [World.setRow], fun k hk => setRow_other _ _ _ _ (by omega)⟩
    exact ⟨hbf, fun h => absurd h (unhide HNO), fun _ => by rw [← unhide HZZ]; rfl⟩
end Go.Proofs.YtbnfilhilgjnfaaDoor

namespace Go.Proofs.YtbnfilhilgjnfaaDoor
set_option linter.unusedVariables false
set_option linter.unusedSimpArgs false
open Go.ChangeShapes Go.WideShapes Go.ChangeAt Go.RowKit Go.Joins

theorem txt_8 (s : ByteArray) : U8 (txt s) := by
  intro y hy
  obtain ⟨x, _, rfl⟩ := List.mem_map.1 hy
  exact x.toNat_lt
theorem prt_8 (p : Ed.Pt) : U8 (prt p) := by
  unfold prt putB
  exact u8_app (u8_app (putN_8 (fun y hy => by cases hy) _ 2) (num8_8 _)) (txt_8 _)
theorem prts_8 (l : List Ed.Pt) : U8 (prts l) := by
  intro y hy
  obtain ⟨x, hx, hy⟩ := List.mem_flatten.1 hy
  obtain ⟨p, _, rfl⟩ := List.mem_map.1 hx
  exact prt_8 p y hy
theorem msgL_8 (k x0 x1 x2 x3 x4 x5 x6 : Int) (l : List Ed.Pt) : U8 (msgL k x0 x1 x2 x3 x4 x5 x6 l) := u8_app (putN_8 (fun y hy => by cases hy) _ 9) (prts_8 l)
end Go.Proofs.YtbnfilhilgjnfaaDoor

namespace Go.Proofs.YtbnfilhilgjnfaaDoor
set_option linter.unusedVariables false
set_option linter.unusedSimpArgs false
set_option maxRecDepth 100000
open Go.ChangeShapes Go.WideShapes Go.ChangeAt Go.RowKit Go.Joins

namespace Oc
theorem numOf_num8 (u : Nat) (hu : u < 18446744073709551616) : numOf (num8 u) = u := by
  simp only [num8, numOf, byteK, List.range, List.range.loop, List.map_cons, List.map_nil, List.foldl_cons, List.foldl_nil]
  simp only [Nat.reduceMul, Nat.reduceSub, Nat.reducePow]
  omega
theorem numOf8 (a0 a1 a2 a3 a4 a5 a6 a7 : Nat) (h0 : a0 < 256) (h1 : a1 < 256) (h2 : a2 < 256) (h3 : a3 < 256) (h4 : a4 < 256) (h5 : a5 < 256) (h6 : a6 < 256) (h7 : a7 < 256) :
    num8 (numOf [a0, a1, a2, a3, a4, a5, a6, a7]) = [a0, a1, a2, a3, a4, a5, a6, a7] := by
  simp only [num8, numOf, byteK, List.range, List.range.loop, List.map_cons, List.map_nil, List.foldl_cons, List.foldl_nil]
  simp only [Nat.reduceMul, Nat.reduceSub, Nat.reducePow, List.cons.injEq, and_true]
  refine ⟨?_, ?_, ?_, ?_, ?_, ?_, ?_, ?_⟩ <;> omega
theorem num8_numOf (l : List Nat) (hl : l.length = 8) (h : ∀ y ∈ l, y < 256) : num8 (numOf l) = l := by
  match l, hl with
  | [a0, a1, a2, a3, a4, a5, a6, a7], _ =>
    exact numOf8 a0 a1 a2 a3 a4 a5 a6 a7 (h _ (by simp)) (h _ (by simp)) (h _ (by simp)) (h _ (by simp)) (h _ (by simp)) (h _ (by simp)) (h _ (by simp)) (h _ (by simp))

end Oc
theorem num8_eq (u : Nat) : num8 u = Oc.num8 u := rfl
/-- bytes from a place on -/
def Ahead (l : List Nat) (k : Nat) (x : List Nat) : Prop := k + x.length ≤ l.length ∧ (l.drop k).take x.length = x
theorem Ahead.app {l : List Nat} {k : Nat} {x y : List Nat} (h : Ahead l k (x ++ y)) : Ahead l k x ∧ Ahead l (k + x.length) y := by
  obtain ⟨h1, h2⟩ := h
  rw [List.length_append] at h1 h2
  have e : (l.drop k).take x.length = x := by
    have := congrArg (List.take x.length) h2
    rw [List.take_take, Nat.min_eq_left (by omega), List.take_left' rfl] at this
    exact this
  refine ⟨⟨by omega, e⟩, by omega, ?_⟩
  have := congrArg (List.drop x.length) h2
  rw [List.drop_take, List.drop_drop, List.drop_left' rfl, Nat.add_sub_cancel_left] at this
  exact this
theorem win_at {l : List Nat} {k u : Nat} {lo hi : Int} (h : Ahead l k (num8 u)) (hu : u ≤ 9223372036854775807) (h1 : lo ≤ (u : Int)) (h2 : (u : Int) ≤ hi) : Oc.winR l lo hi k 0 = ((u : Int), k + 8, 0) := by
  obtain ⟨a, b⟩ := h
  rw [num8_len] at a b
  have e : Oc.numOf ((l.drop k).take 8) = u := by rw [b, num8_eq, Oc.numOf_num8 u (by omega)]
  unfold Oc.winR
  rw [if_neg (by simp), if_neg (by omega), e, if_neg (by omega)]
theorem num_at' {l : List Nat} {k u : Nat} (h : Ahead l k (num8 u)) (hu : u ≤ 9223372036854775807) : Oc.numR l k 0 = ((u : Int), k + 8, 0) := win_at h hu (by omega) (by omega)
theorem strOf_txt (s : ByteArray) : Oc.strOf (txt s) = s := Oc.nats_str s
theorem text_at {l : List Nat} {k : Nat} {s : ByteArray} (h : Ahead l k (num8 (txt s).length ++ txt s)) (hs : s.size ≤ 1024) (hv : Lib.validD s.data.toList = true) (hc : Lib.runeCount s ≤ 256) : Oc.textR l 256 k 0 = (s, k + 8 + s.size, 0) := by
  obtain ⟨h1, h2⟩ := h.app
  obtain ⟨a, b⟩ := h1
  obtain ⟨c, d⟩ := h2
  rw [num8_len] at a b c d
  have e : Oc.numOf ((l.drop k).take 8) = s.size := by rw [b, num8_eq, Oc.numOf_num8 _ (by rw [txt_len]; omega), txt_len]
  have eb : Oc.bodyT l k = s := by
    unfold Oc.bodyT
    rw [e, ← txt_len, d]
    exact strOf_txt s
  rw [txt_len] at c
  have er : Oc.rightE s 256 = 0 := by
    unfold Oc.rightE
    rw [if_neg (by rw [hv]; simp), if_neg (by omega)]
  unfold Oc.textR
  rw [if_neg (by simp), if_neg (by omega), eb, e, if_neg (by omega), if_neg (by omega), if_neg (by omega), er, if_neg (by simp)]
/-- a part that can be told -/
def PtOk (p : Ed.Pt) : Prop := 0 ≤ p.kind ∧ p.kind ≤ 9223372036854775807 ∧ 0 ≤ p.n ∧ p.n ≤ 9223372036854775807 ∧ p.text.size ≤ 1024 ∧ Lib.validD p.text.data.toList = true ∧ Lib.runeCount p.text ≤ 256
theorem prt_eq (p : Ed.Pt) : prt p = num8 p.kind.toNat ++ (num8 p.n.toNat ++ (num8 (txt p.text).length ++ txt p.text)) := by
  simp [prt, putB, putN, prN, List.append_assoc]
theorem part_at {l : List Nat} {k : Nat} {p : Ed.Pt} (h : Ahead l k (prt p)) (hp : PtOk p) : partR l k 0 = (p, k + (prt p).length, 0) := by
  obtain ⟨q1, q2, q3, q4, q5, q6, q7⟩ := hp
  have hlen := prt_len p
  rw [prt_eq] at h
  obtain ⟨h1, h⟩ := h.app
  obtain ⟨h2, h3⟩ := h.app
  rw [num8_len] at h2 h3
  rw [num8_len] at h3
  have e1 := num_at' h1 (by omega)
  have e2 := num_at' h2 (by omega)
  have e3 := text_at h3 q5 q6 q7
  unfold partR
  rw [e1]
  simp only
  rw [e2]
  simp only
  rw [e3, hlen]
  simp only
  rw [show ((p.kind.toNat : Nat) : Int) = p.kind by omega, show ((p.n.toNat : Nat) : Int) = p.n by omega, show k + 8 + 8 + 8 + p.text.size = k + (24 + p.text.size) by omega]
theorem parts_at {l : List Nat} {k : Nat} {es : List Ed.Pt} (h : Ahead l k (prts es)) (hp : ∀ p ∈ es, PtOk p) : ∀ j, j ≤ es.length → partsR l k 0 j = (es.take j, k + (prts (es.take j)).length, 0) := by
  intro j
  induction j with
  | zero => intro _; simp [partsR, prts]
  | succ j ih =>
    intro hj
    obtain ⟨p, hpk⟩ : ∃ p, es[j]? = some p := ⟨_, List.getElem?_eq_getElem (by omega)⟩
    have e := ih (by omega)
    have hA : Ahead l (k + (prts (es.take j)).length) (prt p) := by
      have hs : prts es = prts (es.take j) ++ (prt p ++ prts (es.drop (j + 1))) := by
        have h1 : es = es.take j ++ (p :: es.drop (j + 1)) := by
          have h2 : es.drop j = p :: es.drop (j + 1) := by
            rw [List.drop_eq_getElem_cons (by omega)]
            have := List.getElem?_eq_some_iff.1 hpk
            obtain ⟨_, h3⟩ := this
            rw [h3]
          rw [← h2, List.take_append_drop]
        conv => lhs; rw [h1]
        simp [prts]
      rw [hs] at h
      exact (h.app.2).app.1
    unfold partsR
    rw [e]
    simp only
    rw [part_at hA (hp p (List.mem_of_getElem? hpk))]
    simp only
    have ht : es.take (j + 1) = es.take j ++ [p] := by rw [List.take_add_one, hpk]; rfl
    rw [prts_take hpk, List.length_append, ht, Nat.add_assoc]
theorem weight_n (l : List Ed.Pt) (hl : ∀ p ∈ l, Ed.fitsB p = true) : ∀ a b : Int, ∃ a' b', l.foldl Ed.wStep (some (a, b)) = some (a', b') ∧ a ≤ a' ∧ ∀ p ∈ l, p.kind = 2 → p.n ≤ a' - a := by
  induction l with
  | nil => intro a b; exact ⟨a, b, rfl, by omega, fun p hp => by cases hp⟩
  | cons p l ih =>
    intro a b
    have hp := hl p (List.mem_cons_self ..)
    obtain ⟨_, h1, h2, _⟩ := fits_size hp
    obtain ⟨a', b', h, hle, hs⟩ := ih (fun x hx => hl x (List.mem_cons_of_mem _ hx)) (if p.kind = 2 then a + p.n else a) (if p.kind = 3 then b + p.n else b)
    refine ⟨a', b', ?_, ?_, ?_⟩
    · rw [List.foldl_cons, ← h]
      unfold Ed.wStep
      simp only
      rw [if_pos hp]
    · split at hle <;> omega
    · intro x hx hk
      rcases List.mem_cons.1 hx with rfl | hx
      · rw [if_pos hk] at hle; omega
      · have := hs x hx hk
        split at this <;> omega
theorem light_pts {l : List Ed.Pt} (h : lightB l = true) : ∀ p ∈ l, PtOk p := by
  intro p hp
  have hfa := light_facts h
  have hf := hfa.2.1 p hp
  obtain ⟨z, h1, h2, h3, h4⟩ := fits_size hf
  have hsz : p.text.size ≤ 1024 := by
    obtain ⟨i, hi⟩ := List.getElem?_of_mem hp
    have e : sumS (l.take (i + 1)) = sumS (l.take i) + p.text.size := by unfold sumS; rw [List.take_add_one, hi]; simp
    have := sumS_take l (i + 1)
    have := hfa.2.2
    omega
  have hn : p.kind = 2 → p.n ≤ 256 := by
    intro hk
    obtain ⟨a', b', hw, _, hs⟩ := weight_n l hfa.2.1 0 0
    have h5 := hs p hp hk
    unfold lightB at h
    simp only [Bool.and_eq_true, decide_eq_true_eq] at h
    have h6 := h.2
    unfold putsP Ed.wL at h6
    rw [hw] at h6
    have h7 : a' ≤ 256 := h6
    omega
  unfold Ed.fitsB at hf
  simp only [Bool.and_eq_true, Bool.or_eq_true, decide_eq_true_eq] at hf
  refine ⟨by omega, by omega, by omega, by omega, hsz, ?_, ?_⟩
  · obtain ⟨_, ⟨_, h0⟩ | ⟨_, hv, _⟩⟩ := hf
    · have hnil : p.text.data.toList = [] := List.eq_nil_of_length_eq_zero (by rw [← Lib.size_eq]; exact h0)
      rw [hnil]; rfl
    · exact hv
  · obtain ⟨_, ⟨_, h0⟩ | ⟨hk, _, hc⟩⟩ := hf
    · have := Lib.runeCount_le p.text; omega
    · have := hn hk; omega
theorem Ahead.self (x y : List Nat) : Ahead (x ++ y) 0 x := ⟨by simp, by rw [List.drop_zero, List.take_left' rfl]⟩
theorem Ahead.all (x : List Nat) : Ahead x 0 x := ⟨by simp, by rw [List.drop_zero, List.take_of_length_le (Nat.le_refl _)]⟩
theorem head_eq (k x0 x1 x2 x3 x4 x5 x6 : Int) (n : Nat) : putN [] (msgN k x0 x1 x2 x3 x4 x5 x6 n) 9 = num8 k.toNat ++ (num8 x0.toNat ++ (num8 x1.toNat ++ (num8 x2.toNat ++ (num8 x3.toNat ++ (num8 x4.toNat ++ (num8 x5.toNat ++ (num8 x6.toNat ++ (num8 n)))))))) := by
  simp [putN, msgN, List.append_assoc]
theorem msg_back (k x0 x1 x2 x3 x4 x5 x6 : Int) (l : List Ed.Pt) (h : MsgOk k (nsF x0 x1 x2 x3 x4 x5 x6) l) : GetOk (msgL k x0 x1 x2 x3 x4 x5 x6 l) ∧ gEd (msgL k x0 x1 x2 x3 x4 x5 x6 l) = l ∧ nVal (msgL k x0 x1 x2 x3 x4 x5 x6 l) 0 = k ∧ nVal (msgL k x0 x1 x2 x3 x4 x5 x6 l) 1 = x0 ∧ nVal (msgL k x0 x1 x2 x3 x4 x5 x6 l) 2 = x1 ∧ nVal (msgL k x0 x1 x2 x3 x4 x5 x6 l) 3 = x2 ∧ nVal (msgL k x0 x1 x2 x3 x4 x5 x6 l) 4 = x3 ∧ nVal (msgL k x0 x1 x2 x3 x4 x5 x6 l) 5 = x4 ∧ nVal (msgL k x0 x1 x2 x3 x4 x5 x6 l) 6 = x5 ∧ nVal (msgL k x0 x1 x2 x3 x4 x5 x6 l) 7 = x6 := by
  have hf := light_facts h.2.2.2.2
  have hpos := fun i hi => msgN_pos h l.length hf.1 i hi
  have A := Ahead.all (msgL k x0 x1 x2 x3 x4 x5 x6 l)
  have hlen := msgL_len k x0 x1 x2 x3 x4 x5 x6 l
  obtain ⟨L, hL⟩ : ∃ L, msgL k x0 x1 x2 x3 x4 x5 x6 l = L := ⟨_, rfl⟩
  rw [hL] at hlen ⊢
  rw [hL] at A
  have A9 : Ahead L 0 (putN [] (msgN k x0 x1 x2 x3 x4 x5 x6 l.length) 9 ++ prts l) := by
    have := A
    rw [← hL] at this ⊢
    exact this
  obtain ⟨AH, AP⟩ := A9.app
  rw [putN_len] at AP
  rw [head_eq] at AH
  obtain ⟨A0, AH1⟩ := AH.app
  rw [num8_len] at AH1
  obtain ⟨A1, AH2⟩ := AH1.app
  rw [num8_len] at AH2
  obtain ⟨A2, AH3⟩ := AH2.app
  rw [num8_len] at AH3
  obtain ⟨A3, AH4⟩ := AH3.app
  rw [num8_len] at AH4
  obtain ⟨A4, AH5⟩ := AH4.app
  rw [num8_len] at AH5
  obtain ⟨A5, AH6⟩ := AH5.app
  rw [num8_len] at AH6
  obtain ⟨A6, AH7⟩ := AH6.app
  rw [num8_len] at AH7
  obtain ⟨A7, AH8⟩ := AH7.app
  rw [num8_len] at AH8
  have A8 := AH8
  have s0 : nSt L 0 = (0, 0) := rfl
  have v0p := hpos 0 (by omega)
  have e0 : Oc.numR L 0 0 = (((k.toNat : Nat) : Int), 8, 0) := num_at' (k := 0) (by simpa using A0) (by have : msgN k x0 x1 x2 x3 x4 x5 x6 l.length 0 = k := rfl; omega)
  have s1 : nSt L 1 = (8, 0) := by show (Oc.numR L (nSt L 0).1 (nSt L 0).2).2 = _; rw [s0]; simp only; rw [e0]
  have v0 : nVal L 0 = k := by unfold nVal; rw [s0]; simp only; rw [e0]; simp only; have : msgN k x0 x1 x2 x3 x4 x5 x6 l.length 0 = k := rfl; omega
  have v1p := hpos 1 (by omega)
  have e1 : Oc.numR L 8 0 = (((x0.toNat : Nat) : Int), 16, 0) := num_at' (k := 8) (by simpa using A1) (by have : msgN k x0 x1 x2 x3 x4 x5 x6 l.length 1 = x0 := rfl; omega)
  have s2 : nSt L 2 = (16, 0) := by show (Oc.numR L (nSt L 1).1 (nSt L 1).2).2 = _; rw [s1]; simp only; rw [e1]
  have v1 : nVal L 1 = x0 := by unfold nVal; rw [s1]; simp only; rw [e1]; simp only; have : msgN k x0 x1 x2 x3 x4 x5 x6 l.length 1 = x0 := rfl; omega
  have v2p := hpos 2 (by omega)
  have e2 : Oc.numR L 16 0 = (((x1.toNat : Nat) : Int), 24, 0) := num_at' (k := 16) (by simpa using A2) (by have : msgN k x0 x1 x2 x3 x4 x5 x6 l.length 2 = x1 := rfl; omega)
  have s3 : nSt L 3 = (24, 0) := by show (Oc.numR L (nSt L 2).1 (nSt L 2).2).2 = _; rw [s2]; simp only; rw [e2]
  have v2 : nVal L 2 = x1 := by unfold nVal; rw [s2]; simp only; rw [e2]; simp only; have : msgN k x0 x1 x2 x3 x4 x5 x6 l.length 2 = x1 := rfl; omega
  have v3p := hpos 3 (by omega)
  have e3 : Oc.numR L 24 0 = (((x2.toNat : Nat) : Int), 32, 0) := num_at' (k := 24) (by simpa using A3) (by have : msgN k x0 x1 x2 x3 x4 x5 x6 l.length 3 = x2 := rfl; omega)
  have s4 : nSt L 4 = (32, 0) := by show (Oc.numR L (nSt L 3).1 (nSt L 3).2).2 = _; rw [s3]; simp only; rw [e3]
  have v3 : nVal L 3 = x2 := by unfold nVal; rw [s3]; simp only; rw [e3]; simp only; have : msgN k x0 x1 x2 x3 x4 x5 x6 l.length 3 = x2 := rfl; omega
  have v4p := hpos 4 (by omega)
  have e4 : Oc.numR L 32 0 = (((x3.toNat : Nat) : Int), 40, 0) := num_at' (k := 32) (by simpa using A4) (by have : msgN k x0 x1 x2 x3 x4 x5 x6 l.length 4 = x3 := rfl; omega)
  have s5 : nSt L 5 = (40, 0) := by show (Oc.numR L (nSt L 4).1 (nSt L 4).2).2 = _; rw [s4]; simp only; rw [e4]
  have v4 : nVal L 4 = x3 := by unfold nVal; rw [s4]; simp only; rw [e4]; simp only; have : msgN k x0 x1 x2 x3 x4 x5 x6 l.length 4 = x3 := rfl; omega
  have v5p := hpos 5 (by omega)
  have e5 : Oc.numR L 40 0 = (((x4.toNat : Nat) : Int), 48, 0) := num_at' (k := 40) (by simpa using A5) (by have : msgN k x0 x1 x2 x3 x4 x5 x6 l.length 5 = x4 := rfl; omega)
  have s6 : nSt L 6 = (48, 0) := by show (Oc.numR L (nSt L 5).1 (nSt L 5).2).2 = _; rw [s5]; simp only; rw [e5]
  have v5 : nVal L 5 = x4 := by unfold nVal; rw [s5]; simp only; rw [e5]; simp only; have : msgN k x0 x1 x2 x3 x4 x5 x6 l.length 5 = x4 := rfl; omega
  have v6p := hpos 6 (by omega)
  have e6 : Oc.numR L 48 0 = (((x5.toNat : Nat) : Int), 56, 0) := num_at' (k := 48) (by simpa using A6) (by have : msgN k x0 x1 x2 x3 x4 x5 x6 l.length 6 = x5 := rfl; omega)
  have s7 : nSt L 7 = (56, 0) := by show (Oc.numR L (nSt L 6).1 (nSt L 6).2).2 = _; rw [s6]; simp only; rw [e6]
  have v6 : nVal L 6 = x5 := by unfold nVal; rw [s6]; simp only; rw [e6]; simp only; have : msgN k x0 x1 x2 x3 x4 x5 x6 l.length 6 = x5 := rfl; omega
  have v7p := hpos 7 (by omega)
  have e7 : Oc.numR L 56 0 = (((x6.toNat : Nat) : Int), 64, 0) := num_at' (k := 56) (by simpa using A7) (by have : msgN k x0 x1 x2 x3 x4 x5 x6 l.length 7 = x6 := rfl; omega)
  have s8 : nSt L 8 = (64, 0) := by show (Oc.numR L (nSt L 7).1 (nSt L 7).2).2 = _; rw [s7]; simp only; rw [e7]
  have v7 : nVal L 7 = x6 := by unfold nVal; rw [s7]; simp only; rw [e7]; simp only; have : msgN k x0 x1 x2 x3 x4 x5 x6 l.length 7 = x6 := rfl; omega
  have w9 : Oc.winR L 0 400 64 0 = ((l.length : Int), 72, 0) := win_at A8 (by have := hf.1; omega) (by omega) (by have := hf.1; omega)
  have hed : editR L 64 0 = (l, 72 + (prts l).length, 0) := by
    unfold editR
    rw [w9]
    simp only
    rw [Int.toNat_natCast, parts_at (by simpa using AP) (light_pts h.2.2.2.2) l.length (Nat.le_refl _), List.take_of_length_le (Nat.le_refl _)]
  have hge : gEd L = l := by unfold gEd; rw [s8]; simp only; rw [hed]
  have hgf : gFin L = (72 + (prts l).length, 0) := by unfold gFin; rw [s8]; simp only; rw [hed]
  refine ⟨⟨?_, ?_⟩, hge, v0, v1, v2, v3, v4, v5, v6, v7⟩
  · rw [hgf, hlen]
    unfold Oc.endE
    rw [if_neg (by simp), if_neg (by simp only; rw [prts_len]; omega)]
  · rw [hge, v0, v1, v2, v3, v4, v5, v6, v7]
    exact h

theorem win_ok {l : List Nat} {lo hi : Int} {k : Nat} {e : Int} (h : (Oc.winR l lo hi k e).2.2 = 0) (h8 : U8 l) : e = 0 ∧ (Oc.winR l lo hi k e).2.1 = k + 8 ∧ k + 8 ≤ l.length ∧ lo ≤ (Oc.winR l lo hi k e).1 ∧ 0 ≤ (Oc.winR l lo hi k e).1 ∧ (l.drop k).take 8 = num8 (Oc.winR l lo hi k e).1.toNat := by
  unfold Oc.winR at h ⊢
  by_cases he : e ≠ 0
  · rw [if_pos he] at h; exact absurd h he
  rw [if_neg he] at h ⊢
  by_cases hs : l.length < k + 8
  · rw [if_pos hs] at h; cases h
  rw [if_neg hs] at h ⊢
  split at h
  · cases h
  · rename_i hr
    rw [if_neg hr]
    refine ⟨by omega, rfl, by omega, by omega, by omega, ?_⟩
    simp only
    rw [Int.toNat_natCast, num8_eq, Oc.num8_numOf _ (by rw [List.length_take, List.length_drop]; omega) (fun y hy => h8 y (List.mem_of_mem_drop (List.mem_of_mem_take hy)))]
theorem take_next {l : List Nat} {k : Nat} {x : List Nat} (h : (l.drop k).take x.length = x) : l.take (k + x.length) = l.take k ++ x := by
  rw [List.take_add, h]
theorem text_ok {l : List Nat} {q k : Nat} {e : Int} (h : (Oc.textR l q k e).2.2 = 0) (h8 : U8 l) : e = 0 ∧ l.take (Oc.textR l q k e).2.1 = l.take k ++ (num8 (txt (Oc.textR l q k e).1).length ++ txt (Oc.textR l q k e).1) ∧ (Oc.textR l q k e).2.1 ≤ l.length := by
  unfold Oc.textR at h ⊢
  by_cases he : e ≠ 0
  · rw [if_pos he] at h; exact absurd h he
  rw [if_neg he] at h ⊢
  by_cases hs : l.length < k + 8
  · rw [if_pos hs] at h; cases h
  rw [if_neg hs] at h ⊢
  by_cases h63 : 9223372036854775807 < Oc.numOf ((l.drop k).take 8)
  · rw [if_pos h63] at h; cases h
  rw [if_neg h63] at h ⊢
  by_cases hq : 4 * q < Oc.numOf ((l.drop k).take 8)
  · rw [if_pos hq] at h; cases h
  rw [if_neg hq] at h ⊢
  by_cases hl : l.length < k + 8 + Oc.numOf ((l.drop k).take 8)
  · rw [if_pos hl] at h; cases h
  rw [if_neg hl] at h ⊢
  by_cases hr : Oc.rightE (Oc.bodyT l k) q ≠ 0
  · rw [if_pos hr] at h; exact absurd h hr
  rw [if_neg hr]
  refine ⟨by omega, ?_, by simp only; omega⟩
  simp only
  have hb : txt (Oc.bodyT l k) = (l.drop (k + 8)).take (Oc.numOf ((l.drop k).take 8)) := Oc.nats_of (fun y hy => h8 y (List.mem_of_mem_drop (List.mem_of_mem_take hy)))
  have hbl : (txt (Oc.bodyT l k)).length = Oc.numOf ((l.drop k).take 8) := by rw [hb, List.length_take, List.length_drop]; omega
  have hn : (l.drop k).take 8 = num8 (Oc.numOf ((l.drop k).take 8)) := by
    rw [num8_eq, Oc.num8_numOf _ (by rw [List.length_take, List.length_drop]; omega) (fun y hy => h8 y (List.mem_of_mem_drop (List.mem_of_mem_take hy)))]
  have t1 : l.take (k + 8) = l.take k ++ num8 (Oc.numOf ((l.drop k).take 8)) := by
    have := take_next (l := l) (k := k) (x := num8 (Oc.numOf ((l.drop k).take 8))) (by rw [num8_len]; exact hn)
    rw [num8_len] at this
    exact this
  have t2 := take_next (l := l) (k := k + 8) (x := txt (Oc.bodyT l k)) (by rw [hbl]; exact hb.symm)
  rw [hbl] at t2
  rw [t2, t1, hbl, List.append_assoc]
theorem num_ok {l : List Nat} {k : Nat} {e : Int} (h : (Oc.numR l k e).2.2 = 0) (h8 : U8 l) : e = 0 ∧ (Oc.numR l k e).2.1 ≤ l.length ∧ 0 ≤ (Oc.numR l k e).1 ∧ l.take (Oc.numR l k e).2.1 = l.take k ++ num8 (Oc.numR l k e).1.toNat := by
  obtain ⟨h1, h2, h3, _, h4, h5⟩ := win_ok h h8
  refine ⟨h1, by rw [show (Oc.numR l k e).2.1 = k + 8 from h2]; exact h3, h4, ?_⟩
  rw [show (Oc.numR l k e).2.1 = k + 8 from h2]
  have := take_next (l := l) (k := k) (x := num8 (Oc.numR l k e).1.toNat) (by rw [num8_len]; exact h5)
  rw [num8_len] at this
  exact this
theorem part_ok {l : List Nat} {k : Nat} {e : Int} (h : (partR l k e).2.2 = 0) (h8 : U8 l) : e = 0 ∧ l.take (partR l k e).2.1 = l.take k ++ prt (partR l k e).1 ∧ (partR l k e).2.1 ≤ l.length := by
  obtain ⟨c1, c2, c3⟩ := text_ok (show (Oc.textR l 256 _ _).2.2 = 0 from h) h8
  obtain ⟨b1, b2, b3, b4⟩ := num_ok c1 h8
  obtain ⟨a1, a2, a3, a4⟩ := num_ok b1 h8
  refine ⟨a1, ?_, c3⟩
  rw [prt_eq]
  rw [show l.take (partR l k e).2.1 = _ from c2, b4, a4]
  simp only [List.append_assoc]
  rfl
theorem parts_ok {l : List Nat} {k : Nat} {e : Int} (h8 : U8 l) (hk : k ≤ l.length) : ∀ m, (partsR l k e m).2.2 = 0 → e = 0 ∧ l.take (partsR l k e m).2.1 = l.take k ++ prts (partsR l k e m).1 ∧ (partsR l k e m).2.1 ≤ l.length := by
  intro m
  induction m with
  | zero => intro h; exact ⟨h, by simp [partsR, prts], hk⟩
  | succ m ih =>
    intro h
    obtain ⟨p1, p2, p3⟩ := part_ok (show (partR l (partsR l k e m).2.1 (partsR l k e m).2.2).2.2 = 0 from h) h8
    obtain ⟨q1, q2, q3⟩ := ih p1
    refine ⟨q1, ?_, p3⟩
    have e1 : prts (partsR l k e (m + 1)).1 = prts (partsR l k e m).1 ++ prt (partR l (partsR l k e m).2.1 (partsR l k e m).2.2).1 := by
      show prts ((partsR l k e m).1 ++ [_]) = _
      simp [prts]
    rw [e1, show l.take (partsR l k e (m + 1)).2.1 = _ from p2, q2, List.append_assoc]
theorem nst_ok {l : List Nat} (h8 : U8 l) : ∀ i, (nSt l i).2 = 0 → l.take (nSt l i).1 = putN [] (nVal l) i ∧ (nSt l i).1 ≤ l.length ∧ ∀ j, j < i → 0 ≤ nVal l j := by
  intro i
  induction i with
  | zero => intro _; exact ⟨by simp [nSt, putN], Nat.zero_le _, fun j hj => by omega⟩
  | succ i ih =>
    intro h
    obtain ⟨p1, p2, p3, p4⟩ := num_ok (show (Oc.numR l (nSt l i).1 (nSt l i).2).2.2 = 0 from h) h8
    obtain ⟨q1, q2, q3⟩ := ih p1
    refine ⟨?_, p2, fun j hj => ?_⟩
    · show l.take (Oc.numR l (nSt l i).1 (nSt l i).2).2.1 = putN [] (nVal l) i ++ num8 (nVal l i).toNat
      rw [p4, q1]
      rfl
    · by_cases hji : j = i
      · subst hji; exact p3
      · exact q3 j (by omega)
theorem nst_le (l : List Nat) : ∀ i, (nSt l i).1 ≤ l.length := by
  intro i
  induction i with
  | zero => exact Nat.zero_le _
  | succ i ih =>
    show (Oc.winR l 0 9223372036854775807 (nSt l i).1 (nSt l i).2).2.1 ≤ l.length
    unfold Oc.winR
    repeat' split
    all_goals first | exact ih | (simp only; omega)
theorem get_put {l : List Nat} (h8 : U8 l) (h : GetOk l) : msgL (nVal l 0) (nVal l 1) (nVal l 2) (nVal l 3) (nVal l 4) (nVal l 5) (nVal l 6) (nVal l 7) (gEd l) = l := by
  obtain ⟨he, _⟩ := h
  unfold Oc.endE at he
  have hf0 : (gFin l).2 = 0 := by
    by_cases hz : (gFin l).2 = 0
    · exact hz
    · rw [if_pos hz] at he; exact absurd he hz
  rw [if_neg (by simp [hf0])] at he
  have hge : ¬ (gFin l).1 < l.length := fun hlt => by rw [if_pos hlt] at he; cases he
  have hw0 : ∀ k e, k ≤ l.length → (partsR l (Oc.winR l 0 400 k e).2.1 (Oc.winR l 0 400 k e).2.2 (Oc.winR l 0 400 k e).1.toNat).2.2 = 0 → e = 0 ∧ l.take (editR l k e).2.1 = l.take k ++ (num8 (editR l k e).1.length ++ prts (editR l k e).1) ∧ (editR l k e).2.1 ≤ l.length := by
    intro k e hk hz
    have hkw : (Oc.winR l 0 400 k e).2.1 ≤ l.length := by
      unfold Oc.winR
      repeat' split
      all_goals first | exact hk | (simp only; omega)
    obtain ⟨p1, p2, p3⟩ := parts_ok h8 hkw _ hz
    obtain ⟨w1, w2, w3, _, w4, w5⟩ := win_ok p1 h8
    refine ⟨w1, ?_, p3⟩
    have t := take_next (l := l) (k := k) (x := num8 (Oc.winR l 0 400 k e).1.toNat) (by rw [num8_len]; exact w5)
    rw [num8_len] at t
    show l.take (partsR l _ _ _).2.1 = _
    rw [p2, w2, t, List.append_assoc]
    unfold editR
    rw [partsR_len, w2]
  have hk8 : (nSt l 8).1 ≤ l.length ∨ True := .inr trivial
  have hle : (nSt l 8).1 ≤ l.length := nst_le l 8
  obtain ⟨e8, hed, hfl⟩ := hw0 (nSt l 8).1 (nSt l 8).2 hle hf0
  obtain ⟨hn, _, _⟩ := nst_ok h8 8 e8
  have hall : l.take (editR l (nSt l 8).1 (nSt l 8).2).2.1 = l := List.take_of_length_le (by
    show l.length ≤ (gFin l).1
    omega)
  rw [hall, hn] at hed
  have e9 : putN [] (msgN (nVal l 0) (nVal l 1) (nVal l 2) (nVal l 3) (nVal l 4) (nVal l 5) (nVal l 6) (nVal l 7) (gEd l).length) 9 = putN [] (nVal l) 8 ++ num8 (gEd l).length := by
    simp [putN, msgN]
  rw [msgL, e9, List.append_assoc]
  exact hed.symm
end Go.Proofs.YtbnfilhilgjnfaaDoor

namespace Go.Proofs.YtbnfilhilgjnfaaDoor
set_option linter.unusedVariables false
set_option linter.unusedSimpArgs false
set_option maxRecDepth 100000
open Go.ChangeShapes Go.WideShapes Go.ChangeAt Go.RowKit Go.Joins

namespace Ed
open Go.Deep
set_option maxRecDepth 100000 in
set_option maxHeartbeats 4000000 in
theorem rsame_true (a b : Option Addr) (l : List Pt) (ca cb n : Nat) (w : World) (ha : PtsAt w a l) (hb : PtsAt w b l) (hn : l.length = n) (hc : n ≤ maxLen) :
    Calls Tryd.prog 42 #[.slice a n ca, .slice b n cb] w fun r w' => r = .returned (.bool true) ∧ Below w.heap.size w w' := by
  have HA := hide ha
  have HB := hide hb
  have HN := hide hn
  have nI : (n : Int) ≤ 9223372036854775807 := by unfold maxLen at hc; omega
  clear ha hb hn
  go_enter Tryd.func42, Tryd.ntmps42
  go_wp2_with fail
  go_loopw [13] (fun i wr => ∃ k : Nat, k ≤ n ∧ i = .int .i64 (k : Int) ∧ Hid (Below w.heap.size w wr)) (fun i _ => ((n : Int) - intOf i).toNat)
  case atStart => exact ⟨0, by omega, by simp, hide (Below.refl _ _)⟩
  case round =>
    obtain ⟨k, hk, rfl, HBW⟩ := hrel
    by_cases hlt : k < n
    · have kI : (k : Int) < (n : Int) := by omega
      obtain ⟨p, hpk⟩ : ∃ p, l[k]? = some p := ⟨_, List.getElem?_eq_getElem (by have := unhide HN; omega)⟩
      obtain ⟨b1, o1, rfl, e0, e1, e2⟩ := (unhide HA).at_ (unhide HBW) hpk
      obtain ⟨b2, o2, rfl, f0, f1, f2⟩ := (unhide HB).at_ (unhide HBW) hpk
      clear hpk
      go_wp2_with fail
      go_quiet (fail)
      have HBW2 := hide ((unhide HBW).trans ((Joins.below_draws _ _ nq).mono (unhide HBW).size))
      clear HBW
      go_wp2_with fail
      exact ⟨⟨k + 1, by omega, by simp, HBW2⟩, by simp [intOf]; omega⟩
    · obtain rfl : n = k := by omega
      have kI : ¬ (n : Int) < (n : Int) := by omega
      go_wp2_with fail
      go_ret
      exact ⟨rfl, unhide HBW⟩
end Ed
set_option maxHeartbeats 4000000 in
theorem same_any (k x0 x1 x2 x3 x4 x5 x6 : Int) (a a2 : Option Addr) (l : List Ed.Pt) (n ca cb : Nat) (w : World) (h1 : Ed.PtsAt w a l) (h2 : Ed.PtsAt w a2 l) (hn : l.length = n) (hc : n ≤ maxLen) :
    Calls Tryd.prog 20 #[msgV k x0 x1 x2 x3 x4 x5 x6 (.slice a n ca), msgV k x0 x1 x2 x3 x4 x5 x6 (.slice a2 n cb)] w fun r w' => r = .returned (.bool true) ∧ Below w.heap.size w w' := by
  have b1 : Below w.heap.size w (w.alloc (.cells #[.int .i64 k, .int .i64 x0, .int .i64 x1, .int .i64 x2, .int .i64 x3, .int .i64 x4, .int .i64 x5, .int .i64 x6, .slice a n ca] 25)) := (Below.refl _ _).alloc (Nat.le_refl _) _
  have b2 : Below (w.alloc (.cells #[.int .i64 k, .int .i64 x0, .int .i64 x1, .int .i64 x2, .int .i64 x3, .int .i64 x4, .int .i64 x5, .int .i64 x6, .slice a n ca] 25)).heap.size (w.alloc (.cells #[.int .i64 k, .int .i64 x0, .int .i64 x1, .int .i64 x2, .int .i64 x3, .int .i64 x4, .int .i64 x5, .int .i64 x6, .slice a n ca] 25)) ((w.alloc (.cells #[.int .i64 k, .int .i64 x0, .int .i64 x1, .int .i64 x2, .int .i64 x3, .int .i64 x4, .int .i64 x5, .int .i64 x6, .slice a n ca] 25)).alloc (.cells #[.int .i64 k, .int .i64 x0, .int .i64 x1, .int .i64 x2, .int .i64 x3, .int .i64 x4, .int .i64 x5, .int .i64 x6, .slice a2 n cb] 25)) := (Below.refl _ _).alloc (Nat.le_refl _) _
  have HR1 := hide ((RowAt.new w 25 [.int .i64 k, .int .i64 x0, .int .i64 x1, .int .i64 x2, .int .i64 x3, .int .i64 x4, .int .i64 x5, .int .i64 x6, .slice a n ca]).below b2 (RowAt.new w 25 [.int .i64 k, .int .i64 x0, .int .i64 x1, .int .i64 x2, .int .i64 x3, .int .i64 x4, .int .i64 x5, .int .i64 x6, .slice a n ca]).lt)
  have HR2 := hide (RowAt.new (w.alloc (.cells #[.int .i64 k, .int .i64 x0, .int .i64 x1, .int .i64 x2, .int .i64 x3, .int .i64 x4, .int .i64 x5, .int .i64 x6, .slice a n ca] 25)) 25 [.int .i64 k, .int .i64 x0, .int .i64 x1, .int .i64 x2, .int .i64 x3, .int .i64 x4, .int .i64 x5, .int .i64 x6, .slice a2 n cb])
  rw [show (w.alloc (.cells #[.int .i64 k, .int .i64 x0, .int .i64 x1, .int .i64 x2, .int .i64 x3, .int .i64 x4, .int .i64 x5, .int .i64 x6, .slice a n ca] 25)).heap.size = w.heap.size + 1 by simp] at HR2
  have HB2 := hide (b1.trans (b2.mono b1.size))
  have HSM := hide (Ed.rsame_true a a2 l ca cb n _ (h1.call (unhide HB2)) (h2.call (unhide HB2)) hn hc)
  clear b1 b2 h1 h2 hn
  have c0 : ((w.alloc (.cells #[.int .i64 k, .int .i64 x0, .int .i64 x1, .int .i64 x2, .int .i64 x3, .int .i64 x4, .int .i64 x5, .int .i64 x6, .slice a n ca] 25)).alloc (.cells #[.int .i64 k, .int .i64 x0, .int .i64 x1, .int .i64 x2, .int .i64 x3, .int .i64 x4, .int .i64 x5, .int .i64 x6, .slice a2 n cb] 25)).cell? ⟨w.heap.size, 0, none⟩ = some (.int .i64 k) := (unhide HR1).cell 0
  have c1 : ((w.alloc (.cells #[.int .i64 k, .int .i64 x0, .int .i64 x1, .int .i64 x2, .int .i64 x3, .int .i64 x4, .int .i64 x5, .int .i64 x6, .slice a n ca] 25)).alloc (.cells #[.int .i64 k, .int .i64 x0, .int .i64 x1, .int .i64 x2, .int .i64 x3, .int .i64 x4, .int .i64 x5, .int .i64 x6, .slice a2 n cb] 25)).cell? ⟨w.heap.size, 1, none⟩ = some (.int .i64 x0) := (unhide HR1).cell 1
  have c2 : ((w.alloc (.cells #[.int .i64 k, .int .i64 x0, .int .i64 x1, .int .i64 x2, .int .i64 x3, .int .i64 x4, .int .i64 x5, .int .i64 x6, .slice a n ca] 25)).alloc (.cells #[.int .i64 k, .int .i64 x0, .int .i64 x1, .int .i64 x2, .int .i64 x3, .int .i64 x4, .int .i64 x5, .int .i64 x6, .slice a2 n cb] 25)).cell? ⟨w.heap.size, 2, none⟩ = some (.int .i64 x1) := (unhide HR1).cell 2
  have c3 : ((w.alloc (.cells #[.int .i64 k, .int .i64 x0, .int .i64 x1, .int .i64 x2, .int .i64 x3, .int .i64 x4, .int .i64 x5, .int .i64 x6, .slice a n ca] 25)).alloc (.cells #[.int .i64 k, .int .i64 x0, .int .i64 x1, .int .i64 x2, .int .i64 x3, .int .i64 x4, .int .i64 x5, .int .i64 x6, .slice a2 n cb] 25)).cell? ⟨w.heap.size, 3, none⟩ = some (.int .i64 x2) := (unhide HR1).cell 3
  have c4 : ((w.alloc (.cells #[.int .i64 k, .int .i64 x0, .int .i64 x1, .int .i64 x2, .int .i64 x3, .int .i64 x4, .int .i64 x5, .int .i64 x6, .slice a n ca] 25)).alloc (.cells #[.int .i64 k, .int .i64 x0, .int .i64 x1, .int .i64 x2, .int .i64 x3, .int .i64 x4, .int .i64 x5, .int .i64 x6, .slice a2 n cb] 25)).cell? ⟨w.heap.size, 4, none⟩ = some (.int .i64 x3) := (unhide HR1).cell 4
  have c5 : ((w.alloc (.cells #[.int .i64 k, .int .i64 x0, .int .i64 x1, .int .i64 x2, .int .i64 x3, .int .i64 x4, .int .i64 x5, .int .i64 x6, .slice a n ca] 25)).alloc (.cells #[.int .i64 k, .int .i64 x0, .int .i64 x1, .int .i64 x2, .int .i64 x3, .int .i64 x4, .int .i64 x5, .int .i64 x6, .slice a2 n cb] 25)).cell? ⟨w.heap.size, 5, none⟩ = some (.int .i64 x4) := (unhide HR1).cell 5
  have c6 : ((w.alloc (.cells #[.int .i64 k, .int .i64 x0, .int .i64 x1, .int .i64 x2, .int .i64 x3, .int .i64 x4, .int .i64 x5, .int .i64 x6, .slice a n ca] 25)).alloc (.cells #[.int .i64 k, .int .i64 x0, .int .i64 x1, .int .i64 x2, .int .i64 x3, .int .i64 x4, .int .i64 x5, .int .i64 x6, .slice a2 n cb] 25)).cell? ⟨w.heap.size, 6, none⟩ = some (.int .i64 x5) := (unhide HR1).cell 6
  have c7 : ((w.alloc (.cells #[.int .i64 k, .int .i64 x0, .int .i64 x1, .int .i64 x2, .int .i64 x3, .int .i64 x4, .int .i64 x5, .int .i64 x6, .slice a n ca] 25)).alloc (.cells #[.int .i64 k, .int .i64 x0, .int .i64 x1, .int .i64 x2, .int .i64 x3, .int .i64 x4, .int .i64 x5, .int .i64 x6, .slice a2 n cb] 25)).cell? ⟨w.heap.size, 7, none⟩ = some (.int .i64 x6) := (unhide HR1).cell 7
  have c8 : ((w.alloc (.cells #[.int .i64 k, .int .i64 x0, .int .i64 x1, .int .i64 x2, .int .i64 x3, .int .i64 x4, .int .i64 x5, .int .i64 x6, .slice a n ca] 25)).alloc (.cells #[.int .i64 k, .int .i64 x0, .int .i64 x1, .int .i64 x2, .int .i64 x3, .int .i64 x4, .int .i64 x5, .int .i64 x6, .slice a2 n cb] 25)).cell? ⟨w.heap.size, 8, none⟩ = some (.slice a n ca) := (unhide HR1).cell 8
  have d0 : ((w.alloc (.cells #[.int .i64 k, .int .i64 x0, .int .i64 x1, .int .i64 x2, .int .i64 x3, .int .i64 x4, .int .i64 x5, .int .i64 x6, .slice a n ca] 25)).alloc (.cells #[.int .i64 k, .int .i64 x0, .int .i64 x1, .int .i64 x2, .int .i64 x3, .int .i64 x4, .int .i64 x5, .int .i64 x6, .slice a2 n cb] 25)).cell? ⟨w.heap.size + 1, 0, none⟩ = some (.int .i64 k) := (unhide HR2).cell 0
  have d1 : ((w.alloc (.cells #[.int .i64 k, .int .i64 x0, .int .i64 x1, .int .i64 x2, .int .i64 x3, .int .i64 x4, .int .i64 x5, .int .i64 x6, .slice a n ca] 25)).alloc (.cells #[.int .i64 k, .int .i64 x0, .int .i64 x1, .int .i64 x2, .int .i64 x3, .int .i64 x4, .int .i64 x5, .int .i64 x6, .slice a2 n cb] 25)).cell? ⟨w.heap.size + 1, 1, none⟩ = some (.int .i64 x0) := (unhide HR2).cell 1
  have d2 : ((w.alloc (.cells #[.int .i64 k, .int .i64 x0, .int .i64 x1, .int .i64 x2, .int .i64 x3, .int .i64 x4, .int .i64 x5, .int .i64 x6, .slice a n ca] 25)).alloc (.cells #[.int .i64 k, .int .i64 x0, .int .i64 x1, .int .i64 x2, .int .i64 x3, .int .i64 x4, .int .i64 x5, .int .i64 x6, .slice a2 n cb] 25)).cell? ⟨w.heap.size + 1, 2, none⟩ = some (.int .i64 x1) := (unhide HR2).cell 2
  have d3 : ((w.alloc (.cells #[.int .i64 k, .int .i64 x0, .int .i64 x1, .int .i64 x2, .int .i64 x3, .int .i64 x4, .int .i64 x5, .int .i64 x6, .slice a n ca] 25)).alloc (.cells #[.int .i64 k, .int .i64 x0, .int .i64 x1, .int .i64 x2, .int .i64 x3, .int .i64 x4, .int .i64 x5, .int .i64 x6, .slice a2 n cb] 25)).cell? ⟨w.heap.size + 1, 3, none⟩ = some (.int .i64 x2) := (unhide HR2).cell 3
  have d4 : ((w.alloc (.cells #[.int .i64 k, .int .i64 x0, .int .i64 x1, .int .i64 x2, .int .i64 x3, .int .i64 x4, .int .i64 x5, .int .i64 x6, .slice a n ca] 25)).alloc (.cells #[.int .i64 k, .int .i64 x0, .int .i64 x1, .int .i64 x2, .int .i64 x3, .int .i64 x4, .int .i64 x5, .int .i64 x6, .slice a2 n cb] 25)).cell? ⟨w.heap.size + 1, 4, none⟩ = some (.int .i64 x3) := (unhide HR2).cell 4
  have d5 : ((w.alloc (.cells #[.int .i64 k, .int .i64 x0, .int .i64 x1, .int .i64 x2, .int .i64 x3, .int .i64 x4, .int .i64 x5, .int .i64 x6, .slice a n ca] 25)).alloc (.cells #[.int .i64 k, .int .i64 x0, .int .i64 x1, .int .i64 x2, .int .i64 x3, .int .i64 x4, .int .i64 x5, .int .i64 x6, .slice a2 n cb] 25)).cell? ⟨w.heap.size + 1, 5, none⟩ = some (.int .i64 x4) := (unhide HR2).cell 5
  have d6 : ((w.alloc (.cells #[.int .i64 k, .int .i64 x0, .int .i64 x1, .int .i64 x2, .int .i64 x3, .int .i64 x4, .int .i64 x5, .int .i64 x6, .slice a n ca] 25)).alloc (.cells #[.int .i64 k, .int .i64 x0, .int .i64 x1, .int .i64 x2, .int .i64 x3, .int .i64 x4, .int .i64 x5, .int .i64 x6, .slice a2 n cb] 25)).cell? ⟨w.heap.size + 1, 6, none⟩ = some (.int .i64 x5) := (unhide HR2).cell 6
  have d7 : ((w.alloc (.cells #[.int .i64 k, .int .i64 x0, .int .i64 x1, .int .i64 x2, .int .i64 x3, .int .i64 x4, .int .i64 x5, .int .i64 x6, .slice a n ca] 25)).alloc (.cells #[.int .i64 k, .int .i64 x0, .int .i64 x1, .int .i64 x2, .int .i64 x3, .int .i64 x4, .int .i64 x5, .int .i64 x6, .slice a2 n cb] 25)).cell? ⟨w.heap.size + 1, 7, none⟩ = some (.int .i64 x6) := (unhide HR2).cell 7
  have d8 : ((w.alloc (.cells #[.int .i64 k, .int .i64 x0, .int .i64 x1, .int .i64 x2, .int .i64 x3, .int .i64 x4, .int .i64 x5, .int .i64 x6, .slice a n ca] 25)).alloc (.cells #[.int .i64 k, .int .i64 x0, .int .i64 x1, .int .i64 x2, .int .i64 x3, .int .i64 x4, .int .i64 x5, .int .i64 x6, .slice a2 n cb] 25)).cell? ⟨w.heap.size + 1, 8, none⟩ = some (.slice a2 n cb) := (unhide HR2).cell 8
  unfold msgV
  go_enter Tryd.func20, Tryd.ntmps20
  go_wp2_with fail
  generalize (w.alloc (.cells #[.int .i64 k, .int .i64 x0, .int .i64 x1, .int .i64 x2, .int .i64 x3, .int .i64 x4, .int .i64 x5, .int .i64 x6, .slice a n ca] 25)).alloc (.cells #[.int .i64 k, .int .i64 x0, .int .i64 x1, .int .i64 x2, .int .i64 x3, .int .i64 x4, .int .i64 x5, .int .i64 x6, .slice a2 n cb] 25) = w2 at *
  refine Calls.mono (unhide HSM) ?_
  rintro e w3 ⟨rfl, b3⟩
  have HB3 := hide ((unhide HB2).trans (b3.mono (unhide HB2).size))
  clear b3 c0 d0 c1 d1 c2 d2 c3 d3 c4 d4 c5 d5 c6 d6 c7 d7 c8 d8
  go_wp2_with fail
  go_ret
  exact ⟨rfl, unhide HB3⟩
end Go.Proofs.YtbnfilhilgjnfaaDoor
