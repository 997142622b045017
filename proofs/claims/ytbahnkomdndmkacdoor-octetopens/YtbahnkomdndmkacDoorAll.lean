/- octet.All: the blocks from a place on, one behind the other, as long as there is one. -/
import Derived.Test.YtbahnkomdndmkacDoorBads
namespace Go.Proofs.YtbahnkomdndmkacDoor
set_option linter.unusedVariables false
set_option linter.unusedSimpArgs false
open Go.ChangeShapes Go.WideShapes Go.ChangeAt Go.RowKit

theorem info22 : (Tryd.prog.info? 22).map (fun i => (i.zero, i.size, i.bytes)) = some (some (.slice none 0 0), 1, 24) := by kernel_rfl

/-- a block of m bytes lies at k -/
def GoodAt (l : List Nat) (k m : Nat) : Prop :=
  numOf ((l.drop k).take 8) = m ∧ k + 8 + m + 4 ≤ l.length ∧ m ≤ 16384 ∧ (l.drop (k + 8 + m)).take 4 = sum4 (sumTo ((l.drop k).take (8 + m)))
theorem cases_at (l : List Nat) (k : Nat) : (∃ m, GoodAt l k m) ∨ ∃ e, BadBlock l k e := by
  obtain ⟨m, hm⟩ : ∃ m, numOf ((l.drop k).take 8) = m := ⟨_, rfl⟩
  by_cases h8 : l.length < k + 8
  · exact .inr ⟨2, .inl ⟨.inl ⟨by omega, rfl⟩, by decide⟩⟩
  by_cases h1 : 9223372036854775807 < m
  · exact .inr ⟨5, .inl ⟨.inr (.inl ⟨by omega, by rw [hm]; exact h1, rfl⟩), by decide⟩⟩
  by_cases h2 : 16384 < m
  · exact .inr ⟨4, .inl ⟨.inr (.inr (.inl ⟨by omega, by rw [hm]; omega, by rw [hm]; omega, rfl⟩)), by decide⟩⟩
  by_cases h3 : l.length < k + 8 + m
  · exact .inr ⟨2, .inl ⟨.inr (.inr (.inr ⟨by omega, by rw [hm]; omega, by rw [hm]; omega, by rw [hm]; omega, rfl⟩)), by decide⟩⟩
  by_cases h4 : l.length < k + 8 + m + 4
  · exact .inr ⟨2, .inr ⟨m, hm, by omega, by omega, .inl ⟨by omega, rfl⟩⟩⟩
  by_cases h5 : (l.drop (k + 8 + m)).take 4 = sum4 (sumTo ((l.drop k).take (8 + m)))
  · exact .inl ⟨m, hm, by omega, by omega, h5⟩
  · exact .inr ⟨20, .inr ⟨m, hm, by omega, by omega, .inr ⟨by omega, h5, rfl⟩⟩⟩
theorem not_both {l : List Nat} {k m : Nat} {e : Int} (h : GoodAt l k m) (hb : BadBlock l k e) : False := by
  obtain ⟨hm, h1, h2, h3⟩ := h
  rcases hb with ⟨hb, _⟩ | ⟨m', hm', h4, h5, ⟨h6, _⟩ | ⟨_, h6, _⟩⟩
  · unfold BadBytes at hb
    rw [hm] at hb
    rcases hb with ⟨h4, _⟩ | ⟨_, h4, _⟩ | ⟨_, _, h4, _⟩ | ⟨_, _, _, h4, _⟩ <;> omega
  · rw [hm] at hm'; omega
  · rw [hm] at hm'; subst hm'; exact h6 h3

/-- the blocks from k on, and where the first lies that is none -/
inductive From (l : List Nat) : Nat → List (List Nat) → Nat → Prop
  | stop {k : Nat} {e : Int} (h : BadBlock l k e) : From l k [] k
  | more {k m : Nat} {ds : List (List Nat)} {j : Nat} (h : GoodAt l k m) (ht : From l (k + 8 + m + 4) ds j) : From l k ((l.drop (k + 8)).take m :: ds) j
theorem From.same {l : List Nat} {k : Nat} {ds : List (List Nat)} {j : Nat} (h : From l k ds j) : ∀ {ds' : List (List Nat)} {j' : Nat}, From l k ds' j' → ds' = ds ∧ j' = j := by
  induction h with
  | stop hb =>
    intro ds' j' h'
    cases h' with
    | stop _ => exact ⟨rfl, rfl⟩
    | more hg _ => exact (not_both hg hb).elim
  | more hg _ ih =>
    intro ds' j' h'
    cases h' with
    | stop hb => exact (not_both hg hb).elim
    | more hg' ht' =>
      obtain rfl := hg.1.symm.trans hg'.1
      obtain ⟨rfl, rfl⟩ := ih ht'
      exact ⟨rfl, rfl⟩

/-- a list of lists of bytes of one's own -/
def Lists (w : World) (base : Nat) (v : Value) (ds : List (List Nat)) : Prop :=
  ∃ vs, w.ownsRow base 22 1 v ds.length vs ∧ ∀ (i : Nat) u d, vs[i]? = some u → ds[i]? = some d → w.ownsRow base 5 1 u d.length (bv d)
theorem own_block {w w' : World} {base : Nat} {e : TypeId} {v : Value} {n : Nat} {xs : List Value} (h : w.ownsRow base e 1 v n xs) (hb : ∀ j, base ≤ j → j < w.heap.size → w'.heap[j]? = w.heap[j]?) : w'.ownsRow base e 1 v n xs := by
  obtain ⟨h1, h | ⟨g, cap, cur, rfl, hg, hh, hr⟩⟩ := h
  · exact ⟨h1, .inl h⟩
  · have hlt : g < w.heap.size := by
      by_cases hlt : g < w.heap.size
      · exact hlt
      · rw [Array.getElem?_eq_none (by omega)] at hh; cases hh
    exact ⟨h1, .inr ⟨g, cap, cur, rfl, hg, by rw [hb g hg hlt]; exact hh, hr⟩⟩
theorem Lists.block {w w' : World} {base : Nat} {v : Value} {ds : List (List Nat)} (h : Lists w base v ds) (hb : ∀ j, base ≤ j → j < w.heap.size → w'.heap[j]? = w.heap[j]?) : Lists w' base v ds := by
  obtain ⟨vs, h1, h2⟩ := h
  exact ⟨vs, own_block h1 hb, fun i u d hu hd => own_block (h2 i u d hu hd) hb⟩
theorem Lists.below {w w' : World} {base : Nat} {v : Value} {ds : List (List Nat)} (h : Lists w base v ds) (hb : Below w.heap.size w w') : Lists w' base v ds := h.block fun j _ hj => hb.block j hj
theorem Lists.moved {w w' : World} {g : Nat} {v : Value} {ds : List (List Nat)} (h : Lists w (g + 1) v ds) (hm : Moved w w' g 0) : Lists w' (g + 1) v ds := h.block fun j h1 hj => hm.2.2.2 j hj (by omega)
theorem Lists.nil (w : World) (base : Nat) : Lists w base (.slice none 0 0) [] := ⟨[], World.ownsRow_nil w base 22 1, fun i u d hu _ => by simp at hu⟩
theorem own_apart {w : World} {b b' : Nat} {u v : Value} {n n' : Nat} {xs xs' : List Value} (h : w.ownsRow b 5 1 u n xs) (h' : w.ownsRow b' 22 1 v n' xs') : u.ownBlock = none ∨ u.ownBlock ≠ v.ownBlock := by
  obtain ⟨_, ⟨rfl, _⟩ | ⟨g, cap, cur, rfl, _, hh, _⟩⟩ := h
  · exact .inl rfl
  obtain ⟨_, ⟨rfl, _⟩ | ⟨g', cap', cur', rfl, _, hh', _⟩⟩ := h'
  · exact .inr (by simp [Value.ownBlock])
  · refine .inr ?_
    simp only [Value.ownBlock, ne_eq, Option.some.injEq]
    intro e
    subst e
    rw [hh] at hh'
    simp at hh'
theorem own_mono {w : World} {b b' : Nat} {e : TypeId} {v : Value} {n : Nat} {xs : List Value} (h : w.ownsRow b e 1 v n xs) (hb : b' ≤ b) : w.ownsRow b' e 1 v n xs := by
  obtain ⟨h1, h | ⟨g, cap, cur, rfl, hg, hr⟩⟩ := h
  · exact ⟨h1, .inl h⟩
  · exact ⟨h1, .inr ⟨g, cap, cur, rfl, Nat.le_trans hb hg, hr⟩⟩
theorem Lists.push {w w' : World} {base : Nat} {v v' u : Value} {vs : List Value} {ds : List (List Nat)} {d : List Nat} (h0 : w.ownsRow base 22 1 v ds.length vs)
    (h : ∀ (i : Nat) u d, vs[i]? = some u → ds[i]? = some d → w.ownsRow base 5 1 u d.length (bv d)) (hu : w.ownsRow base 5 1 u d.length (bv d))
    (hg : w.grownBy w' v.ownBlock) (h' : w'.ownsRow base 22 1 v' (ds.length + 1) (vs ++ [u])) : Lists w' base v' (ds ++ [d]) := by
  refine ⟨vs ++ [u], by rw [List.length_append]; exact h', ?_⟩
  have hl : vs.length = ds.length := by have := h0.1; omega
  intro i x y hx hy
  rw [List.getElem?_append] at hx hy
  rw [hl] at hx
  split at hx
  · rename_i hi
    rw [if_pos hi] at hy
    have q := h i x y hx hy
    exact q.kept hg (own_apart q h0)
  · rename_i hi
    rw [if_neg hi] at hy
    have e : i - ds.length = 0 := by
      by_cases e : i - ds.length = 0
      · exact e
      · rw [List.getElem?_eq_none (by simp; omega)] at hx; cases hx
    rw [e] at hx hy
    simp at hx hy
    subst hx hy
    exact hu.kept hg (own_apart hu h0)

set_option maxHeartbeats 2000000 in
theorem all_any (a : Option Addr) (n cap : Nat) (l : List Nat) (w : World) (hv : Byt w (.slice a n cap) l) (hg : Low (.slice a n cap) w.heap.size) (hl : n ≤ 1000000000) (h256 : ∀ y ∈ l, y < 256) :
    Calls Tryd.prog 35 #[.slice a n cap] w fun e w' => ∃ v' ds j, e = .returned (.tuple #[v', .int .i64 ((j : Nat) : Int)]) ∧ Lists w' (w.heap.size + 1) v' ds ∧ From l 0 ds j ∧ j ≤ n ∧ ds.length ≤ n ∧ Below w.heap.size w w' := by
  have hq : Pl (w.alloc (.cells #[.slice a n cap, .int .i64 0] 63)) w.heap.size 0 (.slice a n cap) 0 := by
    have q := Pl.fresh (w := w) (v := .slice a n cap) (k := 0)
    simpa using q
  have hb0 : Below w.heap.size w (w.alloc (.cells #[.slice a n cap, .int .i64 0] 63)) := (Below.refl _ _).alloc (Nat.le_refl _) _
  have hln := byt_len hv
  have HQ := hide hq
  have HB0 := hide hb0
  have HV := hide hv
  have HG := hide hg
  have HLN := hide hln
  have H256 := hide h256
  clear h256 hv hg hln hq hb0
  obtain ⟨i0, hi, hz0, hz1, hz2⟩ := info_parts info22
  go_enter Tryd.func35, Tryd.ntmps35
  go_wp2_with fail
  go_loopw [4] (fun v wr => ∃ (k : Nat) (ds : List (List Nat)), k ≤ n ∧ ds.length ≤ k ∧ Pl wr w.heap.size 0 (.slice a n cap) k ∧ Lists wr (w.heap.size + 1) v ds ∧ Below w.heap.size w wr ∧ ∀ ds2 j, From l k ds2 j → From l 0 (ds ++ ds2) j) (fun _ wr => n - (intOf ((wr.cell? ⟨w.heap.size, 1, none⟩).getD (.int .i64 0))).toNat)
  case atStart => exact ⟨0, [], by omega, by simp, unhide HQ, Lists.nil _ _, unhide HB0, fun ds2 j h => h⟩
  case round =>
    obtain ⟨k, ds, hk, hdk, hp, hrow, hbel, hfrom⟩ := hrel
    have HP := hide hp
    have HROW := hide hrow
    have HBEL := hide hbel
    have HFR := hide hfrom
    have hsz := hbel.size
    have hcell := hide hp.1.2.1
    clear hp hrow hbel hfrom
    have hvr := (unhide HV).call (unhide HBEL)
    rcases cases_at l k with ⟨m, hgood⟩ | ⟨e0, hbad⟩
    · have HGD := hide hgood
      obtain ⟨q1, q2, q3, q4⟩ := hgood
      rw [unhide HLN] at q2
      have hblk := hide (block_any w.heap.size 0 a n cap l k wr hvr (unhide HP) (unhide HG) hl (unhide H256) m q1 q2 q3 q4)
      clear hvr q1 q4
      go_wp2_with fail
      refine (unhide hblk).mono ?_
      rintro e w1 ⟨v1, rfl, hd1, hq1, hm1, hlow1⟩
      have HR1 := hide ((unhide HROW).moved hm1)
      have HB1 := hide ((unhide HBEL).trans hm1.1)
      have HQ1 := hide hq1
      have hgs := hq1.2
      have hlen : ((l.drop (k + 8)).take m).length ≤ 1000000000 := by rw [List.length_take]; omega
      have hcl := hide (clone_any _ _ _ hd1 hlen)
      clear hm1 hlow1 hd1 hq1
      go_wp2_with fail
      refine (unhide hcl).mono ?_
      rintro e w2 ⟨v2, rfl, ho2, hb2⟩
      generalize hd : (l.drop (k + 8)).take m = d at ho2
      have HD := hide hd
      clear hd
      generalize hdn : d.length = dn at ho2
      have HDN := hide hdn
      clear hdn
      obtain ⟨a2, c2, rfl⟩ : ∃ a2 c2, v2 = .slice a2 dn c2 := by
        obtain ⟨_, ⟨rfl, rfl⟩ | ⟨g2, c2, _, rfl, _⟩⟩ := ho2
        · exact ⟨_, _, rfl⟩
        · exact ⟨_, _, rfl⟩
      obtain ⟨vs, hr1, hr2⟩ := (unhide HR1).below (hb2.alloc hb2.size (.cells #[.slice a2 dn c2] 22))
      have hgw : w.heap.size + 1 ≤ w1.heap.size := hgs
      have ho3 : Hid ((w2.alloc (.cells #[.slice a2 dn c2] 22)).ownsRow (w.heap.size + 1) 5 1 (.slice a2 dn c2) d.length (bv d)) := by
        have q := own_mono (ho2.alloc (.cells #[.slice a2 dn c2] 22)) hgw
        exact hide (own_cast q (unhide HDN).symm rfl)
      have HB2 := hide ((unhide HB1).trans (((hb2.alloc hb2.size (.cells #[.slice a2 dn c2] 22))).mono (Nat.le_of_lt hgs)))
      have HQ2 := hide ((unhide HQ1).below ((hb2.alloc hb2.size (.cells #[.slice a2 dn c2] 22)).mono hgs))
      have hsz2 := hb2.size
      have HR2 := hide hr2
      have hdl : ds.length ≤ 1000000000 := by omega
      clear ho2 hb2 hr2
      go_wp2_with (at_builtin; refine wpList_append_own _ rfl _ _ 49 rfl (w.heap.size + 1) 22 i0 (.slice none 0 0) 1 24 Tryd.underlying49 hi hz0 hz1 hz2 rfl (by decide) _ _ _ rfl hr1 ⟨w2.heap.size, 0, none⟩ 1 1 [.slice a2 dn c2] rfl ?c0 ?c1 ?c2 ?c3 ?c4 ?c5 ?_)
      case c0 => rfl
      case c1 =>
        intro j u hj
        cases j with
        | zero => simp at hj; subst hj; simp [Addr.add]
        | succ j => simp at hj
      case c2 => intro u hu; simp at hu; subst hu; rfl
      case c3 => unfold maxLen; omega
      case c4 => omega
      case c5 => simp; omega
      intro v' w3 hown' hgrow' _
      have hL := hide (Lists.push hr1 (unhide HR2) (unhide ho3) hgrow' hown')
      have hb3 : Below (w.heap.size + 1) (w2.alloc (.cells #[.slice a2 dn c2] 22)) w3 := (Below.refl _ _).grown hgrow' (by simp; omega) (fun k hk => (hr1.lt k hk).1)
      have HQ3 := hide ((unhide HQ2).below hb3)
      have HB3 := hide ((unhide HB2).trans (hb3.mono (Nat.le_succ _)))
      have hc3 := hide (unhide HQ3).1.2.1
      clear hb3 hgrow' hown' hr1
      go_wp2_with fail
      go_roundw
      case rel =>
        refine ⟨k + 8 + m + 4, _, by omega, ?_, unhide HQ3, unhide hL, unhide HB3, fun ds2 j h => ?_⟩
        · simp; omega
        · rw [List.append_assoc, ← unhide HD]; exact unhide HFR _ _ (.more (unhide HGD) h)
      case measure =>
        rw [unhide hc3, unhide hcell]
        simp [intOf]
        omega
    · have hpos := badBlock_pos hbad
      have HBD := hide hbad
      have hblk := hide (block_bad w.heap.size 0 a n cap l k e0 wr hvr (unhide HP) (unhide HG) hl hk (unhide H256) hbad)
      clear hvr hbad
      have hnb : (e0 != 0) = true := by simpa using hpos
      go_wp2_with fail
      refine (unhide hblk).mono ?_
      rintro e w1 ⟨rfl, hb1⟩
      have hq1 := (unhide HP).below (hb1.mono (unhide HP).2)
      have HR1 := hide ((unhide HROW).below hb1)
      have HB1 := hide ((unhide HBEL).trans (hb1.mono hsz))
      have hqf := hq1.1
      clear hb1 hq1
      go_wp2_with fail
      go_quiet (fail)
      go_wp2_with fail
      go_ret2
      exact ⟨_, ds, k, rfl, (unhide HR1).below (Joins.below_draws _ _ nq), by simpa using unhide HFR [] k (.stop (unhide HBD)), hk, by omega, (unhide HB1).trans (Joins.below_draws _ _ nq)⟩
end Go.Proofs.YtbahnkomdndmkacDoor
