/- The line and the column of a place: Where. -/
import Derived.Test.YtdnbhomjfgpcfaaDoorLAt
import Derived.Shelf.SlSorted.Search
import Derived.Ground.SlsoProg
namespace Go.Proofs.YtdnbhomjfgpcfaaDoor
set_option linter.unusedVariables false
set_option linter.unusedSimpArgs false
open Go.ChangeShapes Go.WideShapes Go.ChangeAt Go.RowKit Go.Joins Go.Deep

shelf_lay SlLaysO.n14 Slso 14 at Tryd as Tryd.layso14
theorem fSearch : Tryd.layso14_ren.f 14 = 50 := by kernel_rfl
theorem stF_sorted : ∀ (a : List (List UInt8)) (i : Nat), (stF i a).Pairwise (· < ·)
  | [], i => by simp [stF]
  | c :: q, i => by
    have ih := stF_sorted q (i + 1)
    rw [stF]
    split
    · refine List.Pairwise.cons (fun n hn => ?_) ih
      have := (stF_ge q (i + 1) n hn).1
      omega
    · exact ih
theorem sts_sorted (cs : List (List UInt8)) : (sts cs).Pairwise (· < ·) := List.Pairwise.cons (fun n hn => by have := (stF_ge cs 0 n hn).1; omega) (stF_sorted cs 0)
theorem sts_mono (cs : List (List UInt8)) {a b : Nat} (h : a ≤ b) (hb : b < (sts cs).length) : (sts cs).getD a 0 ≤ (sts cs).getD b 0 := by
  have ha : a < (sts cs).length := by omega
  rw [List.getD_eq_getElem?_getD, List.getD_eq_getElem?_getD, List.getElem?_eq_getElem ha, List.getElem?_eq_getElem hb]
  simp only [Option.getD_some]
  rcases Nat.lt_or_ge a b with h1 | h1
  · exact Nat.le_of_lt (List.pairwise_iff_getElem.1 (sts_sorted cs) a b ha hb h1)
  · obtain rfl : a = b := by omega
    exact Nat.le_refl _
/-- the line of a place -/
def lineOf (cs : List (List UInt8)) (p : Nat) : Nat := (sts cs).countP (fun y => decide (y ≤ p)) - 1
theorem line_pos (cs : List (List UInt8)) (p : Nat) : 1 ≤ (sts cs).countP (fun y => decide (y ≤ p)) ∧ (sts cs).countP (fun y => decide (y ≤ p)) ≤ (sts cs).length := by
  refine ⟨?_, List.countP_le_length⟩
  unfold sts
  rw [List.countP_cons]
  simp
theorem line_lt (cs : List (List UInt8)) (p : Nat) : lineOf cs p < (sts cs).length := by
  have := line_pos cs p
  unfold lineOf
  omega
def dA (cs : List (List UInt8)) : Array Int := ((sts cs).map (fun (n : Nat) => (n : Int))).toArray
theorem dA_at (cs : List (List UInt8)) (i : Nat) (h : i < (sts cs).length) : (dA cs)[i]! = (((sts cs).getD i 0 : Nat) : Int) := by
  have h1 : (dA cs)[i]? = some (((sts cs)[i]'h : Nat) : Int) := by simp [dA, h]
  rw [getElem!_def, h1, List.getD_eq_getElem?_getD, List.getElem?_eq_getElem h]
  rfl
theorem search_ok {w : World} {B g : Nat} {vr vs : Value} {cs : List (List UInt8)} (h : Ix w B g vr vs cs) (p : Nat) (hl : cs.length ≤ 1099511627776) : Calls Tryd.prog 50 #[vs, .int .i64 ((p : Int) + 1)] w fun r w' => r = .returned (.int .i64 ((lineOf cs p : Int) + 1)) ∧ Below w.heap.size w w' := by
  obtain ⟨gs, c2, e3, _, _, _, _⟩ := own_rd h.s (u := .int .i64 0) (i := 0) (by simp [nsv, sts])
  have hs := h.s
  rw [e3] at hs ⊢
  have hsl := sts_len cs
  have hsz : (dA cs).size = (sts cs).length := by simp [dA]
  have hblk : gs < w.heap.size := (hs.lt gs rfl).2
  have K := Any.sort_SearchInts Tryd.layso14 gs 0 c2 (dA cs) ((p : Int) + 1) w (fun i hi => by
    rw [hsz] at hi
    rw [dA_at cs i hi, Nat.zero_add]
    have := World.ownsRow.cells hs (g := gs) rfl i (.int .i64 (((sts cs).getD i 0 : Nat) : Int)) (by rw [List.getD_eq_getElem?_getD]; simp [nsv, hi])
    simpa [Addr.add_lit] using this) hblk (by rw [hsz]; omega) (fun a b hab hb hx => by
    rw [hsz] at hb
    rw [dA_at cs a (by omega)] at hx
    rw [dA_at cs b hb]
    have := sts_mono cs hab hb
    simp only [decide_eq_true_eq] at hx ⊢
    omega)
  rw [fSearch, hsz] at K
  refine Calls.mono K ?_
  rintro r w' ⟨rfl, hb⟩
  refine ⟨?_, hb⟩
  have e : (dA cs).toList.countP (fun y => !decide ((p : Int) + 1 ≤ y)) = lineOf cs p + 1 := by
    have h1 := line_pos cs p
    unfold lineOf
    rw [show (sts cs).countP (fun y => decide (y ≤ p)) - 1 + 1 = (sts cs).countP (fun y => decide (y ≤ p)) by omega]
    unfold dA
    rw [List.countP_map]
    refine List.countP_congr (fun x _ => ?_)
    simp
    omega
  rw [e]
  simp
def whereE (cs : List (List UInt8)) (p : Int) : Value := if 0 ≤ p ∧ p ≤ (cs.length : Int) then .tuple #[.int .i64 (lineOf cs p.toNat : Int), .int .i64 (p - (((sts cs).getD (lineOf cs p.toNat) 0 : Nat) : Int)), .int .i64 0] else .tuple #[.int .i64 0, .int .i64 0, .int .i64 1]
set_option maxRecDepth 100000 in
set_option maxHeartbeats 4000000 in
theorem where_ok {w : World} {B g : Nat} {vr vs : Value} {cs : List (List UInt8)} (h : Ix w B g vr vs cs) (p : Int) (hl : cs.length ≤ 1099511627776) : Calls Tryd.prog 20 #[.pointer (some ⟨g, 0, none⟩), .int .i64 p] w fun r w' => r = .returned (whereE cs p) ∧ Below w.heap.size w w' := by
  obtain ⟨ar, cr, as_, c_, e1, e2, q0, q1⟩ := h.two
  have KM := hide (made_ok g w as_ _ c_ q1 (sts_pos cs))
  by_cases h0 : 0 ≤ p
  · by_cases h1 : p ≤ (cs.length : Int)
    · obtain ⟨k, rfl⟩ : ∃ k : Nat, p = (k : Int) := ⟨p.toNat, by omega⟩
      have hv : whereE cs (k : Int) = .tuple #[.int .i64 (lineOf cs k : Int), .int .i64 ((k : Int) - (((sts cs).getD (lineOf cs k) 0 : Nat) : Int)), .int .i64 0] := by
        unfold whereE
        rw [if_pos ⟨h0, h1⟩, Int.toNat_natCast]
      rw [hv]
      have KS := hide (search_ok h k hl)
      rw [e2] at KS
      have hll := line_lt cs k
      obtain ⟨f, hf⟩ : ∃ f, (sts cs)[lineOf cs k]? = some f := ⟨_, List.getElem?_eq_getElem hll⟩
      have hfl := sts_le (List.mem_of_getElem? hf)
      rw [List.getD_eq_getElem?_getD, hf]
      simp only [Option.getD_some]
      have hsl := sts_len cs
      obtain ⟨j, hj⟩ : ∃ j, lineOf cs k = j := ⟨_, rfl⟩
      rw [hj] at KS hll hf ⊢
      obtain ⟨m, hm⟩ : ∃ z, (sts cs).length = z := ⟨_, rfl⟩
      obtain ⟨n, hn⟩ : ∃ z, cs.length = z := ⟨_, rfl⟩
      have HIX := hide h
      have HF := hide hf
      have HE2 := hide e2
      rw [hm] at q1 hll KS hsl HE2
      rw [hn] at q0 h1 hfl hl hsl
      have HM := hide hm
      have hle : ¬ (n : Int) < (k : Int) := by omega
      have k0 : ¬ (k : Int) < 0 := by omega
      have hjm : (j : Int) < (m : Int) := by omega
      have j0 : (0 : Int) ≤ (j : Int) := by omega
      clear hv h e1 e2 hf hm hn hj h0 h1
      go_enter Tryd.func20, Tryd.ntmps20
      go_wp2_with fail
      refine Calls.mono (unhide KM) ?_
      rintro r w1 ⟨rfl, rfl⟩
      go_wp2_with fail
      refine Calls.mono (unhide KS) ?_
      rintro r w2 ⟨rfl, b2⟩
      have hI2 := (unhide HIX).call b2
      have HB := hide b2
      have q1' := hI2.row.cell 1
      simp only [List.getElem?_cons_zero, List.getElem?_cons_succ] at q1'
      rw [unhide HE2] at q1'
      obtain ⟨gs, c2, e3, hc, _, hcc, _⟩ := own_rd hI2.s (u := .int .i64 (f : Int)) (i := j) (by simp [nsv, unhide HF])
      rw [unhide HE2] at e3
      injection e3 with e3 _ e4
      subst e3 e4
      clear b2 hI2 q0 q1 KS
      go_wp2_with fail
      go_quiet (fail)
      have HB2 := hide ((unhide HB).trans ((Go.Joins.below_draws _ _ nq).mono (unhide HB).size))
      go_wp2_with fail
      go_ret3
      exact ⟨rfl, unhide HB2⟩
    · have hv : whereE cs p = .tuple #[.int .i64 0, .int .i64 0, .int .i64 1] := by unfold whereE; rw [if_neg (fun x => h1 x.2)]
      rw [hv]
      obtain ⟨n, hn⟩ : ∃ z, cs.length = z := ⟨_, rfl⟩
      rw [hn] at q0 h1
      have hlt : (n : Int) < p := by omega
      have p0 : ¬ p < 0 := by omega
      clear hv h e1 e2 q1 hn h0 h1
      go_enter Tryd.func20, Tryd.ntmps20
      go_wp2_with fail
      refine Calls.mono (unhide KM) ?_
      rintro r w1 ⟨rfl, rfl⟩
      go_wp2_with fail
      go_ret3
      exact ⟨rfl, Below.refl _ _⟩
  · have hv : whereE cs p = .tuple #[.int .i64 0, .int .i64 0, .int .i64 1] := by unfold whereE; rw [if_neg (fun x => h0 x.1)]
    rw [hv]
    have p0 : p < 0 := by omega
    clear hv h e1 e2 q0 q1 h0
    go_enter Tryd.func20, Tryd.ntmps20
    go_wp2_with fail
    refine Calls.mono (unhide KM) ?_
    rintro r w1 ⟨rfl, rfl⟩
    go_wp2_with fail
    go_ret3
    exact ⟨rfl, Below.refl _ _⟩
end Go.Proofs.YtdnbhomjfgpcfaaDoor
