/- Rows of parts; edits that are read. -/
import Derived.Test.YtbnfilhilgjnfaaDoorQB
import Derived.Test.YtbnfilhilgjnfaaDoorGOpn
namespace Go.Proofs.YtbnfilhilgjnfaaDoor
set_option linter.unusedVariables false
set_option linter.unusedSimpArgs false
set_option maxRecDepth 100000
open Go.ChangeShapes Go.WideShapes Go.ChangeAt Go.RowKit Go.Joins

namespace Ed
def ptc (l : List Pt) : List Value := l.flatMap pcs
theorem ptc_len (l : List Pt) : (ptc l).length = l.length * 3 := by
  induction l with
  | nil => rfl
  | cons p l ih => simp only [ptc, List.flatMap_cons, List.length_append, List.length_cons] at ih ⊢; rw [ih]; simp [pcs]; omega
theorem ptc_snoc (l : List Pt) (p : Pt) : ptc (l ++ [p]) = ptc l ++ pcs p := by simp [ptc]
theorem ptc_at : ∀ (l : List Pt) (i : Nat) (p : Pt), l[i]? = some p → (ptc l)[i * 3]? = some (.int .i64 p.kind) ∧ (ptc l)[i * 3 + 1]? = some (.int .i64 p.n) ∧ (ptc l)[i * 3 + 2]? = some (.string p.text)
  | [], i, p, h => by simp at h
  | q :: l, 0, p, h => by
    obtain rfl : q = p := by simpa using h
    exact ⟨rfl, rfl, rfl⟩
  | q :: l, i + 1, p, h => by
    have ih := ptc_at l i p (by simpa using h)
    have e : ∀ j, (ptc (q :: l))[(i + 1) * 3 + j]? = (ptc l)[i * 3 + j]? := fun j => by
      show (pcs q ++ ptc l)[(i + 1) * 3 + j]? = _
      rw [List.getElem?_append_right (by simp [pcs]; omega)]
      congr 1
      simp [pcs]
      omega
    have e0 := e 0
    simp only [Nat.add_zero] at e0
    rw [e0, e 1, e 2]
    exact ih
theorem infoPart : ∃ i, Tryd.prog.info? 44 = some i ∧ i.zero = some (.agg #[.int .i64 0, .int .i64 0, .string ⟨#[]⟩]) ∧ i.size = 3 ∧ i.bytes = 32 := info_parts (by kernel_rfl)
def OwnP (w : World) (B : Nat) (v : Value) (l : List Pt) : Prop := w.ownsRow B 44 3 v l.length (ptc l)
theorem OwnP.call {w w' : World} {B : Nat} {v : Value} {l : List Pt} (h : OwnP w B v l) (hb : Below w.heap.size w w') : OwnP w' B v l := own_call h hb
theorem OwnP.nil (w : World) (B : Nat) : OwnP w B (.slice none 0 0) [] := World.ownsRow_nil _ _ _ _
theorem OwnP.slice {w : World} {B : Nat} {v : Value} {l : List Pt} (h : OwnP w B v l) : ∃ a c, v = .slice a l.length c ∧ PtsAt w a l ∧ l.length ≤ c ∧ c ≤ maxLen := by
  rcases h.2 with ⟨rfl, h0⟩ | ⟨g, cap, cur, rfl, h1, h2, h3, h4, h5, h6⟩
  · exact ⟨none, 0, by rw [h0], .inl (List.length_eq_zero_iff.1 h0), by omega, by unfold maxLen; omega⟩
  · refine ⟨_, _, rfl, ?_, h3, h4⟩
    by_cases hl : l = []
    · exact .inl hl
    · refine .inr ⟨g, 0, rfl, (Array.getElem?_eq_some_iff.1 h2).1, fun i p hp => ?_⟩
      obtain ⟨q0, q1, q2⟩ := ptc_at l i p hp
      have hc : ∀ j u, (ptc l)[j]? = some u → w.cell? ⟨g, j, none⟩ = some u := fun j u hu => by
        have := World.ownsRow.cells h (g := g) rfl j u hu
        simpa [Addr.add_lit] using this
      rw [Nat.zero_add]
      exact ⟨hc _ _ q0, hc _ _ q1, hc _ _ q2⟩
theorem ptc_one (l : List Pt) : ∀ u ∈ ptc l, u.oneCell' = true := by
  induction l with
  | nil => intro u h; cases h
  | cons p l ih =>
    intro u hu
    rcases List.mem_append.1 (show u ∈ pcs p ++ ptc l from hu) with h | h
    · simp only [pcs, List.mem_cons, List.not_mem_nil, or_false] at h
      rcases h with rfl | rfl | rfl <;> rfl
    · exact ih u h

end Ed
theorem own_oth {w w' : World} {b s n g : Nat} {e : TypeId} {v : Value} {xs : List Value} (h : w.ownsRow b e s v n xs) (hg : g < b) (ho : Oc.Oth w w' g) : w'.ownsRow b e s v n xs := by
  obtain ⟨h1, h2⟩ := h
  refine ⟨h1, ?_⟩
  rcases h2 with h2 | ⟨g', cap, cur, e1, e2, e3, e4⟩
  · exact .inl h2
  · have hlt : g' < w.heap.size := by
      rcases Nat.lt_or_ge g' w.heap.size with hlt | hge
      · exact hlt
      · rw [Array.getElem?_eq_none hge] at e3; cases e3
    exact .inr ⟨g', cap, cur, e1, e2, (ho g' hlt (by omega)).trans e3, e4⟩
theorem utabs_low {w w' : World} {g : Nat} (h : Lib.Utf8Tabs 2 3 w) (hb : Below g w w') (hg : 4 ≤ g) : Lib.Utf8Tabs 2 3 w' :=
  ⟨fun c hc => by rw [hb.cell (p := ⟨2, c, none⟩) (show 2 < g by omega)]; exact h.1 c hc, fun i hi => by
    rw [hb.cell (p := ⟨3, _, none⟩) (show 3 < g by omega), hb.cell (p := ⟨3, _, none⟩) (show 3 < g by omega)]; exact h.2 i hi⟩
/-- a part that is read -/
def partR (l : List Nat) (k : Nat) (e : Int) : Ed.Pt × Nat × Int :=
  (⟨(Oc.numR l k e).1, (Oc.numR l (Oc.numR l k e).2.1 (Oc.numR l k e).2.2).1, (Oc.textR l 256 (Oc.numR l (Oc.numR l k e).2.1 (Oc.numR l k e).2.2).2.1 (Oc.numR l (Oc.numR l k e).2.1 (Oc.numR l k e).2.2).2.2).1⟩, (Oc.textR l 256 (Oc.numR l (Oc.numR l k e).2.1 (Oc.numR l k e).2.2).2.1 (Oc.numR l (Oc.numR l k e).2.1 (Oc.numR l k e).2.2).2.2).2)
def partsR (l : List Nat) (k : Nat) (e : Int) : Nat → List Ed.Pt × Nat × Int
  | 0 => ([], k, e)
  | m + 1 => ((partsR l k e m).1 ++ [(partR l (partsR l k e m).2.1 (partsR l k e m).2.2).1], (partR l (partsR l k e m).2.1 (partsR l k e m).2.2).2)
theorem partsR_len (l : List Nat) (k : Nat) (e : Int) (m : Nat) : (partsR l k e m).1.length = m := by
  induction m with
  | zero => rfl
  | succ m ih => simp [partsR, ih]
def editR (l : List Nat) (k : Nat) (e : Int) : List Ed.Pt × Nat × Int := partsR l (Oc.winR l 0 400 k e).2.1 (Oc.winR l 0 400 k e).2.2 (Oc.winR l 0 400 k e).1.toNat
theorem winR_bound (l : List Nat) (k : Nat) (e : Int) : 0 ≤ (Oc.winR l 0 400 k e).1 ∧ (Oc.winR l 0 400 k e).1 ≤ 400 := by
  unfold Oc.winR
  split
  · simp
  · split
    · simp
    · split
      · simp
      · rename_i h; exact ⟨by simp, by simp only; omega⟩
def RdE (l : List Nat) (w : World) (g : Nat) (a : Option Addr) (n cap : Nat) (k : Nat) (e : Int) (r : Ending) (w' : World) : Prop :=
  ∃ v, r = .returned v ∧ Ed.OwnP w' w.heap.size v (editR l k e).1 ∧ Oc.RdS w' g a n cap l (editR l k e).2.1 (editR l k e).2.2 ∧ Oc.Stp w w' g
set_option maxHeartbeats 4000000 in
theorem readEdit_any (g : Nat) (a : Option Addr) (n cap : Nat) (l : List Nat) (k : Nat) (e : Int) (w : World) (hT : Lib.Utf8Tabs 2 3 w) (hg2 : 4 ≤ g) (hS : Oc.RdS w g a n cap l k e) :
    Calls Tryd.prog 38 #[.pointer (some ⟨g, 0, none⟩)] w fun r w' => RdE l w g a n cap k e r w' := by
  have HS := hide hS
  have HT := hide hT
  have HWB := hide (winR_bound l k e)
  have HGB := hide hS.lt
  clear hS hT
  go_enter Tryd.func38, Tryd.ntmps38
  go_wp2_with fail
  refine Calls.mono (Oc.within_tot g a n cap l k e 0 400 w (unhide HS)) ?_
  rintro r w1 ⟨rfl, s1, t1⟩
  have HS1 := hide s1
  have HT1 := hide t1
  clear s1 t1
  obtain ⟨cn, hcn⟩ : ∃ cn : Nat, (Oc.winR l 0 400 k e).1 = (cn : Int) := ⟨(Oc.winR l 0 400 k e).1.toNat, by have := unhide HWB; omega⟩
  have hc4 : cn ≤ 400 := by have := unhide HWB; omega
  have HER : Hid (editR l k e = partsR l (Oc.winR l 0 400 k e).2.1 (Oc.winR l 0 400 k e).2.2 cn) := hide (by unfold editR; rw [hcn, Int.toNat_natCast])
  rw [hcn]
  clear hcn
  obtain ⟨k1, hk1⟩ : ∃ z, (Oc.winR l 0 400 k e).2.1 = z := ⟨_, rfl⟩
  obtain ⟨e1, he1⟩ : ∃ z, (Oc.winR l 0 400 k e).2.2 = z := ⟨_, rfl⟩
  rw [hk1, he1] at HS1 HER
  clear hk1 he1
  go_wp2_with fail
  go_loopw [3, 6] (fun v i wr => ∃ j : Nat, j ≤ cn ∧ i = .int .i64 (j : Int) ∧ Hid (Ed.OwnP wr w.heap.size v (partsR l k1 e1 j).1) ∧ Hid (Oc.RdS wr g a n cap l (partsR l k1 e1 j).2.1 (partsR l k1 e1 j).2.2) ∧ Hid (Oc.Stp w wr g)) (fun _ i _ => ((cn : Int) - intOf i).toNat)
  case atStart => exact ⟨0, by omega, by simp, hide (Ed.OwnP.nil _ _), HS1, HT1⟩
  case round =>
    obtain ⟨j, hj, rfl, HOW, HSW, HTW⟩ := hrel
    by_cases hlt : j < cn
    · have jI : (j : Int) < (cn : Int) := by omega
      have HNX : Hid ((partsR l k1 e1 (j + 1)).1 = (partsR l k1 e1 j).1 ++ [(partR l (partsR l k1 e1 j).2.1 (partsR l k1 e1 j).2.2).1] ∧ (partsR l k1 e1 (j + 1)).2 = (partR l (partsR l k1 e1 j).2.1 (partsR l k1 e1 j).2.2).2) := hide ⟨rfl, rfl⟩
      have HLN := hide (partsR_len l k1 e1 j)
      obtain ⟨ps, hps⟩ : ∃ z, (partsR l k1 e1 j).1 = z := ⟨_, rfl⟩
      obtain ⟨kj, hkj⟩ : ∃ z, (partsR l k1 e1 j).2.1 = z := ⟨_, rfl⟩
      obtain ⟨ej, hej⟩ : ∃ z, (partsR l k1 e1 j).2.2 = z := ⟨_, rfl⟩
      rw [hps] at HOW HNX HLN
      rw [hkj, hej] at HSW HNX
      clear hps hkj hej
      have HA := hide (Oc.number_tot g a n cap l kj ej wr (unhide HSW))
      unfold partR at HNX
      obtain ⟨xa, hxa⟩ : ∃ z, Oc.numR l kj ej = z := ⟨_, rfl⟩
      rw [hxa] at HA HNX
      clear hxa
      obtain ⟨va, ka, ea⟩ := xa
      obtain ⟨xb, hxb⟩ : ∃ z, Oc.numR l ka ea = z := ⟨_, rfl⟩
      have HXB := hide hxb
      simp only [hxb] at HNX
      clear hxb
      obtain ⟨vb, kb, eb⟩ := xb
      obtain ⟨xc, hxc⟩ : ∃ z, Oc.textR l 256 kb eb = z := ⟨_, rfl⟩
      have HXC := hide hxc
      simp only [hxc] at HNX
      clear hxc
      obtain ⟨vc, kc, ec⟩ := xc
      simp only at HNX
      go_wp2_with fail
      refine Calls.mono (unhide HA) ?_
      rintro r w2 ⟨rfl, s2, t2⟩
      have HS2 := hide s2
      have HT2 := hide ((unhide HTW).trans t2)
      have HB := hide (Oc.number_tot g a n cap l ka ea w2 s2)
      rw [unhide HXB] at HB
      have HO2 := hide (own_oth (unhide HOW) (unhide HGB) t2.oth)
      clear s2 t2 HA HSW HOW HTW
      go_wp2_with fail
      refine Calls.mono (unhide HB) ?_
      rintro r w3 ⟨rfl, s3, t3⟩
      have HO3 := hide (own_oth (unhide HO2) (unhide HGB) t3.oth)
      have HT3 := hide ((unhide HT2).trans t3)
      have HC := hide (Oc.text_tot g a n cap l kb 256 eb w3 (utabs_low (unhide HT) (unhide HT3).low hg2) s3 (by omega))
      rw [unhide HXC] at HC
      clear s3 t3 HB HS2 HO2 HT2
      go_wp2_with fail
      refine Calls.mono (unhide HC) ?_
      rintro r w4 ⟨rfl, s4, t4⟩
      have HO4 := hide (own_oth (unhide HO3) (unhide HGB) t4.oth)
      have HT4 := hide ((unhide HT3).trans t4)
      have HS4 := hide s4
      clear s4 t4 HC HO3 HT3
      have b5 : Below w4.heap.size w4 (w4.alloc (.cells #[.int .i64 va, .int .i64 vb, .string vc] 44)) := (Below.refl _ _).alloc (Nat.le_refl _) _
      have R5 := RowAt.new w4 44 [.int .i64 va, .int .i64 vb, .string vc]
      have HO5 := hide ((unhide HO4 : Ed.OwnP w4 w.heap.size u3 ps).call b5)
      have HS5 := hide ((unhide HS4).call b5)
      have HT5 := hide ((unhide HT4).trans (Oc.Stp.of_below (Nat.le_of_lt (unhide HS4).lt) b5))
      have HR5 : Hid (∀ (b : Addr), some ⟨w4.heap.size, 0, none⟩ = some b → ∀ (j : Nat) (u : Value), (Ed.pcs ⟨va, vb, vc⟩)[j]? = some u → (w4.alloc (.cells #[.int .i64 va, .int .i64 vb, .string vc] 44)).cell? (b.add j) = some u) := hide (fun b hb j u hu => by
        cases hb
        rw [Addr.add_lit, R5.cell, Nat.zero_add]
        exact hu)
      have HSB : Hid (w.heap.size ≤ (w4.alloc (.cells #[.int .i64 va, .int .i64 vb, .string vc] 44)).heap.size) := hide (Nat.le_trans (unhide HT4).low.size b5.size)
      clear b5 R5 HO4 HS4 HT4
      obtain ⟨i0, hi, hz0, hz1, hz2⟩ := Ed.infoPart
      go_wp2_with (at_builtin; refine wpList_append_src _ rfl _ _ 23 rfl w.heap.size 44 i0 (.agg #[.int .i64 0, .int .i64 0, .string ⟨#[]⟩]) 3 32 Tryd.underlying23 hi hz0 hz1 hz2 (by simp [Value.cells]) (by decide) _ _ _ rfl (unhide HO5) (some ⟨w4.heap.size, 0, none⟩) 1 1 (Ed.pcs ⟨va, vb, vc⟩) rfl (by rfl) (fun h => by cases h) (unhide HR5) ?c2 ?c3 ?c4 (unhide HSB) ?_)
      case c2 =>
        intro u hu
        simp only [Ed.pcs, List.mem_cons, List.not_mem_nil, or_false] at hu
        rcases hu with rfl | rfl | rfl <;> rfl
      case c3 => rw [unhide HLN]; unfold maxLen; omega
      case c4 => rw [unhide HLN]; omega
      intro ad6 cap6 w6 O6 g6
      generalize w4.alloc (.cells #[.int .i64 va, .int .i64 vb, .string vc] 44) = w5 at *
      have HB6 : Hid (Below w.heap.size w5 w6) := hide ((Below.refl _ _).grown g6 (unhide HSB) (fun k hk => ((unhide HO5).lt k hk).1))
      have HO6 : Hid (Ed.OwnP w6 w.heap.size (.slice ad6 (ps.length + 1) cap6) (ps ++ [⟨va, vb, vc⟩])) := hide (by
        unfold Ed.OwnP
        rw [List.length_append, Ed.ptc_snoc]
        exact O6)
      have HS6 := hide ((unhide HS5).step ((unhide HB6).mono (Nat.le_of_lt (unhide HGB))) ((unhide HS5).rdr.below ((unhide HB6).mono (unhide HGB))) (unhide HS5).le)
      have HT6 : Hid (Oc.Stp w w6 g) := hide ⟨(unhide HT5).low.trans ((unhide HB6).mono (Nat.le_of_lt (unhide HGB))), fun j hj hjg => ((unhide HB6).block j hj).trans ((unhide HT5).oth j hj hjg)⟩
      clear O6 g6 HO5 HS5 HT5 HR5
      go_wp2_with fail
      exact ⟨⟨j + 1, by omega, by simp, by rw [(unhide HNX).1]; exact HO6, by rw [(unhide HNX).2]; exact HS6, HT6⟩, by simp [intOf]; omega⟩
    · obtain rfl : cn = j := by omega
      have jI : ¬ (cn : Int) < (cn : Int) := by omega
      go_wp2_with fail
      go_ret
      exact ⟨_, rfl, by rw [unhide HER]; exact unhide HOW, by rw [unhide HER]; exact unhide HSW, unhide HTW⟩
end Go.Proofs.YtbnfilhilgjnfaaDoor
