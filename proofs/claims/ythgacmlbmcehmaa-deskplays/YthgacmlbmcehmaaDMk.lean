/- A desk behind calls (made). -/
import Derived.Test.YthgacmlbmcehmaaDDo
namespace Go.Proofs.Ythgacmlbmcehmaa
set_option linter.unusedVariables false
set_option linter.unusedSimpArgs false
open Go.ChangeShapes Go.WideShapes Go.ChangeAt Go.RowKit Go.Joins Go.Deep

/-- what a right policy has -/
theorem right_has {n0 n1 n2 : Nat} {L C Q1 Q2 Q3 E : Nat → Int} {S : Nat → ByteArray} (h : rightN n0 n1 n2 L C Q1 Q2 Q3 E S = 0) : (1 ≤ n1 ∧ n1 ≤ 32) ∧ (1 ≤ n2 ∧ n2 ≤ 8) ∧ ∀ i, i < n2 → ∃ lb : Nat, E i = (lb : Int) ∧ lb < n1 := by
  unfold rightN at h
  split at h
  · rename_i hh
    simp only [Bool.and_eq_true] at hh
    obtain ⟨⟨hl, hq⟩, he⟩ := hh
    unfold labelsB at hl
    unfold quotasB at hq
    unfold entriesB at he
    simp only [Bool.and_eq_true, withinB, decide_eq_true_eq, beq_iff_eq] at hl hq he
    refine ⟨by omega, by omega, fun i hi => ?_⟩
    have h2 := allB_get he.2 hi
    unfold entryB at h2
    simp only [Bool.and_eq_true, withinB, decide_eq_true_eq] at h2
    exact ⟨(E i).toNat, by omega, by omega⟩
  · cases h
/-- a call, as the law has it -/
structure DoV where
  o : Int
  who : Int
  conn : Int
  n : Int
def DosAt (w : World) (a : Option Addr) (l : List DoV) : Prop := l = [] ∨ ∃ b off, a = some ⟨b, off, none⟩ ∧ b < w.heap.size ∧ ∀ i k, l[i]? = some k →
  w.cell? ⟨b, off + i * 4, none⟩ = some (.int .i64 k.o) ∧ w.cell? ⟨b, off + i * 4 + 1, none⟩ = some (.int .i64 k.who) ∧ w.cell? ⟨b, off + i * 4 + 2, none⟩ = some (.int .i64 k.conn) ∧ w.cell? ⟨b, off + i * 4 + 3, none⟩ = some (.int .i64 k.n)
/-- the guests behind calls -/
def runD (Q : Nat → Int) (D : List Gst) (l : List DoV) : List Gst := l.foldl (fun D k => (doesD Q D k.o k.who k.conn k.n).1) D
theorem runD_take {Q : Nat → Int} {D : List Gst} {l : List DoV} {i : Nat} {k : DoV} (h : l[i]? = some k) : runD Q D (l.take (i + 1)) = (doesD Q (runD Q D (l.take i)) k.o k.who k.conn k.n).1 := by
  unfold runD
  rw [List.take_add_one, h, List.foldl_append]
  rfl
/-- a new desk's guests -/
def newD (n2 : Nat) (E : Nat → Int) : List Gst := (List.range n2).map (newG E)
theorem new_any (a0 a1 a2 : Option Addr) (n0 n1 n2 c0 c1 c2 : Nat) (L C Q1 Q2 Q3 E : Nat → Int) (S : Nat → ByteArray) (Dw : Nat → Bool) (w : World)
    (pl : PolLabs w a0 n0 L C) (pq : PolQuos w a1 n1 Q1 Q2 Q3) (pe : PolEnts w a2 n2 E S Dw) (hc0 : n0 ≤ c0) (hm0 : c0 ≤ maxLen) (hr : rightN n0 n1 n2 L C Q1 Q2 Q3 E S = 0) :
    Calls Try.prog 12 #[.agg #[.slice a0 n0 c0, .slice a1 n1 c1, .slice a2 n2 c2]] w fun e w' => ∃ g gg c sv ex, e = .returned (.tuple #[.pointer (some ⟨g, 0, none⟩), .int .i64 0]) ∧ Ds w' g gg c n1 sv ex Q3 (newD n2 E) ∧ Below w.heap.size w w' ∧ w.heap.size ≤ gg := by
  obtain ⟨⟨h1, h2⟩, ⟨h3, h4⟩, h5⟩ := right_has hr
  refine Calls.mono (new_ok a0 a1 a2 n0 n1 n2 c0 c1 c2 L C Q1 Q2 Q3 E S Dw w pl pq pe hc0 hm0 hr h4 h2) ?_
  rintro e w' ⟨gd, v, s, rfl, hm⟩
  obtain ⟨gg, c, ex, hd, hg⟩ := hm.desk (by simp; omega) (by simp; omega)
  have hs := hm.seats (by simp; omega)
  refine ⟨gd, gg, c, s, ex, rfl, ⟨hd, ?_, ?_, h2⟩, hm.bel, hg⟩
  · obtain ⟨gs, cq, e, cs, hr, hj⟩ := hs
    simp only [List.length_map, List.length_range] at e hj
    exact ⟨gs, cq, e, cs, hr, fun j hj' => by rw [hj j hj']; simp [List.getD_eq_getElem?_getD, hj']⟩
  · intro x hx
    obtain ⟨i, hi, rfl⟩ := List.mem_map.1 hx
    exact ⟨⟨by simp [newG], by simp [newG], by simp [newG], by simp [newG], by simp [newG], by simp [newG], by simp [newG], by simp [newG], by simp [newG]⟩, h5 i (List.mem_range.1 hi)⟩
set_option maxRecDepth 100000 in
set_option maxHeartbeats 4000000 in
theorem made_ok (a0 a1 a2 al : Option Addr) (n0 n1 n2 c0 c1 c2 cl : Nat) (L C Q1 Q2 Q3 E : Nat → Int) (S : Nat → ByteArray) (Dw : Nat → Bool) (l : List DoV) (w : World)
    (pl : PolLabs w a0 n0 L C) (pq : PolQuos w a1 n1 Q1 Q2 Q3) (pe : PolEnts w a2 n2 E S Dw) (hc0 : n0 ≤ c0) (hm0 : c0 ≤ maxLen) (hr : rightN n0 n1 n2 L C Q1 Q2 Q3 E S = 0) (hl : DosAt w al l) (hl3 : l.length ≤ 300) :
    Calls Try.prog 30 #[.agg #[.slice a0 n0 c0, .slice a1 n1 c1, .slice a2 n2 c2], .slice al l.length cl] w fun e w' => ∃ g gg c sv ex, e = .returned (.pointer (some ⟨g, 0, none⟩)) ∧ Ds w' g gg c n1 sv ex Q3 (runD Q3 (newD n2 E) l) ∧ Below w.heap.size w w' ∧ w.heap.size ≤ gg := by
  have hb : Below w.heap.size w (w.alloc (.cells #[.slice a0 n0 c0, .slice a1 n1 c1, .slice a2 n2 c2] 26)) := (Below.refl _ _).alloc (Nat.le_refl _) _
  have HN := hide (new_any a0 a1 a2 n0 n1 n2 c0 c1 c2 L C Q1 Q2 Q3 E S Dw _ (pl.call hb) (pq.call hb) (pe.call hb) hc0 hm0 hr)
  have HB := hide hb
  have HL := hide hl
  obtain ⟨n, hn⟩ : ∃ n, l.length = n := ⟨_, rfl⟩
  rw [hn] at hl3 ⊢
  have HLN := hide hn
  have nI : (n : Int) ≤ 300 := by omega
  clear pl pq pe hr hb hl hn
  go_enter Try.func30, Try.ntmps30
  go_wp2_with fail
  refine Calls.mono (unhide HN) ?_
  rintro e w1 ⟨g, gg, c, sv, ex, rfl, hd, hb1, hg⟩
  have HS : Hid ((Ds w1 g gg c n1 sv ex Q3 (runD Q3 (newD n2 E) (l.take 0)) ∧ Below w.heap.size w w1) ∧ w.heap.size ≤ gg) := hide ⟨⟨hd, (unhide HB).trans (hb1.mono (unhide HB).size)⟩, Nat.le_trans (unhide HB).size hg⟩
  clear hd hb1 hg HN HB
  go_wp2_with fail
  go_loopw [16] (fun s wr => ∃ k : Nat, k ≤ n ∧ s = .int .i64 (k : Int) ∧ Hid ((Ds wr g gg c n1 sv ex Q3 (runD Q3 (newD n2 E) (l.take k)) ∧ Below w.heap.size w wr) ∧ w.heap.size ≤ gg)) (fun s _ => ((n : Int) - intOf s).toNat)
  case atStart => exact ⟨0, by omega, by simp, HS⟩
  case round =>
    clear HS
    obtain ⟨k, hk, rfl, HI⟩ := hrel
    by_cases hlt : k < n
    · have kI : (k : Int) < (n : Int) := by omega
      obtain ⟨x, hx⟩ : ∃ x, l[k]? = some x := ⟨_, List.getElem?_eq_getElem (by have := unhide HLN; omega)⟩
      rcases unhide HL with h0 | ⟨b, off, rfl, hbl, hcs⟩
      · rw [h0] at hx; cases hx
      obtain ⟨q0, q1, q2, q3⟩ := hcs k x hx
      have hB := (unhide HI).1.2
      have keep : ∀ (q : Addr) (x : Value), w.cell? q = some x → wr.cell? q = some x := fun q x hq => (World.cell?_of_block (hB.block _ (World.block_lt_of_cell? _ _ hq))).trans hq
      have e0 := keep _ _ q0
      have e1 := keep _ _ q1
      have e2 := keep _ _ q2
      have e3 := keep _ _ q3
      have HX := hide hx
      clear q0 q1 q2 q3 keep hcs hbl hx hB
      go_wp2_with fail
      have hba : Below wr.heap.size wr (wr.alloc (.cells #[.int .i64 x.o, .int .i64 x.who, .int .i64 x.conn, .int .i64 x.n] 38)) := (Below.refl _ _).alloc (Nat.le_refl _) _
      have HDS := hide ((unhide HI).1.1.call hba)
      have HBA := hide ((unhide HI).1.2.trans (hba.mono (unhide HI).1.2.size))
      have HG := hide (unhide HI).2
      clear hba HI e0 e1 e2 e3
      refine Calls.mono (does_any (unhide HDS) x.o x.who x.conn x.n) ?_
      rintro r w3 ⟨v, rfl, hd, ho, _⟩
      have HN : Hid ((Ds w3 g gg c n1 sv ex Q3 (runD Q3 (newD n2 E) (l.take (k + 1))) ∧ Below w.heap.size w w3) ∧ w.heap.size ≤ gg) := hide (by
        rw [runD_take (unhide HX)]
        exact ⟨⟨hd, (unhide HBA).trans (ho.below (unhide HBA).size (fun q hq => hq ▸ unhide HG))⟩, unhide HG⟩)
      clear hd ho HDS HBA HG HX
      go_wp2_with fail
      exact ⟨⟨k + 1, by omega, by simp, HN⟩, by simp [intOf]; omega⟩
    · obtain rfl : k = n := by omega
      have kI : ¬ (k : Int) < (k : Int) := by omega
      have HF : Hid ((Ds wr g gg c n1 sv ex Q3 (runD Q3 (newD n2 E) l) ∧ Below w.heap.size w wr) ∧ w.heap.size ≤ gg) := hide (by have := unhide HI; rw [List.take_of_length_le (by rw [unhide HLN]; exact Nat.le_refl _)] at this; exact this)
      clear HI
      go_wp2_with fail
      go_ret
      exact ⟨g, rfl, gg, ⟨c, sv, ex, (unhide HF).1.1⟩, (unhide HF).1.2, (unhide HF).2⟩
end Go.Proofs.Ythgacmlbmcehmaa
