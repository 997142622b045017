/- An index: New, and what only reads. -/
import Derived.Test.YtdnbhomjfgpcfaaDoorLRu
import Derived.Maps.AppendAt
namespace Go.Proofs.YtdnbhomjfgpcfaaDoor
set_option linter.unusedVariables false
set_option linter.unusedSimpArgs false
open Go.ChangeShapes Go.WideShapes Go.ChangeAt Go.RowKit Go.Joins Go.Deep

/-- where lines begin, behind the first one -/
def stF : Nat → List (List UInt8) → List Nat
  | _, [] => []
  | i, c :: q => if rn c = 10 then (i + 1) :: stF (i + 1) q else stF (i + 1) q
def sts (cs : List (List UInt8)) : List Nat := 0 :: stF 0 cs
theorem stF_app : ∀ (a : List (List UInt8)) (i : Nat) (b : List (List UInt8)), stF i (a ++ b) = stF i a ++ stF (i + a.length) b
  | [], i, b => by simp [stF]
  | c :: q, i, b => by
    have h := stF_app q (i + 1) b
    rw [List.cons_append, stF, stF, h, List.length_cons, show i + 1 + q.length = i + (q.length + 1) by omega]
    split <;> simp
theorem sts_next {cs : List (List UInt8)} {k : Nat} {c : List UInt8} (h : cs[k]? = some c) : sts (cs.take (k + 1)) = sts (cs.take k) ++ (if rn c = 10 then [k + 1] else []) := by
  have hk := (List.getElem?_eq_some_iff.1 h).1
  rw [List.take_add_one, h]
  unfold sts
  rw [Option.toList_some, stF_app, List.length_take, Nat.min_eq_left (by omega)]
  simp only [stF, Nat.zero_add, List.cons_append]
theorem stF_len : ∀ (a : List (List UInt8)) (i : Nat), (stF i a).length ≤ a.length
  | [], i => by simp [stF]
  | c :: q, i => by
    have h := stF_len q (i + 1)
    rw [stF]
    split
    · simp; omega
    · simp; omega
theorem sts_len (cs : List (List UInt8)) : (sts cs).length ≤ cs.length + 1 := by have := stF_len cs 0; simp [sts]; omega
def nsv (l : List Nat) : List Value := l.map (fun (n : Nat) => .int .i64 (n : Int))
theorem nsv_app (a b : List Nat) : nsv (a ++ b) = nsv a ++ nsv b := by simp [nsv]
theorem nsv_len (l : List Nat) : (nsv l).length = l.length := by simp [nsv]
/-- an index in block g -/
structure Ix (w : World) (B g : Nat) (vr vs : Value) (cs : List (List UInt8)) : Prop where
  row : RowAt w g 64 [vr, vs]
  r : w.ownsRow B 21 1 vr cs.length (rnv cs)
  s : w.ownsRow B 3 1 vs (sts cs).length (nsv (sts cs))
  gB : B ≤ g
  sm : ∃ gr cr, vr = .slice (some ⟨gr, 0, none⟩) cs.length cr
theorem Ix.call {w w' : World} {B g : Nat} {vr vs : Value} {cs : List (List UInt8)} (h : Ix w B g vr vs cs) (hb : Below w.heap.size w w') : Ix w' B g vr vs cs := ⟨h.row.below hb h.row.lt, own_call h.r hb, own_call h.s hb, h.gB, h.sm⟩
theorem info64 : ∃ i, Tryd.prog.info? 3 = some i ∧ i.zero = some (.int .i64 0) ∧ i.size = 1 ∧ i.bytes = 8 := info_parts (by kernel_rfl)
theorem own_row {w : World} {B e g : Nat} {xs : List Value} (h : RowAt w g e xs) (hB : B ≤ g) (hm : xs.length ≤ maxLen) : w.ownsRow B e 1 (.slice (some ⟨g, 0, none⟩) xs.length xs.length) xs.length xs :=
  ⟨by simp, .inr ⟨g, xs.length, xs.toArray, rfl, hB, h, Nat.le_refl _, hm, by simp, by simp⟩⟩
theorem own_sl {w : World} {B e n : Nat} {v : Value} {xs : List Value} (h : w.ownsRow B e 1 v n xs) : ∃ a c, v = .slice a n c ∧ n ≤ c ∧ c ≤ maxLen := by
  rcases h.2 with ⟨rfl, h0⟩ | ⟨g, cap, cur, rfl, e2, e3, e4, e5, e6⟩
  · exact ⟨none, 0, by rw [h0], by omega, by unfold maxLen; omega⟩
  · exact ⟨_, _, rfl, e4, e5⟩
theorem own_rd {w : World} {B e n : Nat} {v : Value} {xs : List Value} (h : w.ownsRow B e 1 v n xs) {i : Nat} {u : Value} (hu : xs[i]? = some u) : ∃ g c, v = .slice (some ⟨g, 0, none⟩) n c ∧ w.cell? ⟨g, i, none⟩ = some u ∧ i < n ∧ n ≤ c ∧ c ≤ maxLen := by
  have hlt := (List.getElem?_eq_some_iff.1 hu).1
  rw [h.1, Nat.mul_one] at hlt
  rcases h.2 with ⟨_, h0⟩ | ⟨g, cap, cur, rfl, e2, e3, e4, e5, e6, e7⟩
  · omega
  · refine ⟨g, cap, rfl, ?_, hlt, e4, e5⟩
    have := World.ownsRow.cells h (g := g) rfl i u hu
    simpa [Addr.add_lit] using this
def NewR (s : ByteArray) (w : World) (r : Ending) (w' : World) : Prop := (Lib.validD s.data.toList = false ∧ r = .returned (.tuple #[.pointer none, .int .i64 21]) ∨ ∃ cs g vr vs, Tx s cs ∧ r = .returned (.tuple #[.pointer (some ⟨g, 0, none⟩), .int .i64 0]) ∧ Ix w' w.heap.size g vr vs cs) ∧ Below w.heap.size w w'
theorem rnv_at {cs : List (List UInt8)} {k : Nat} {c : List UInt8} (h : cs[k]? = some c) : (rnv cs)[k]? = some (.int .i32 (rn c : Int)) := by simp [rnv, h]
set_option maxRecDepth 100000 in
set_option maxHeartbeats 4000000 in
theorem new_any (s : ByteArray) (w : World) (hT : UT w) (hs : s.size ≤ 1099511627776) : Calls Tryd.prog 14 #[.string s] w fun r w' => NewR s w r w' := by
  have K := hide (trunes_any s 9223372036854775807 w hT (by omega))
  clear hT
  go_enter Tryd.func14, Tryd.ntmps14
  go_wp2_with fail
  refine Calls.mono (unhide K) ?_
  rintro r w1 ⟨h1, b1⟩
  have B1 := hide b1
  clear b1
  rcases h1 with ⟨hv, rfl⟩ | ⟨cs, hx, ⟨h1, rfl⟩ | ⟨h1, v, rfl, ho, hsm⟩⟩
  · go_wp2_with fail
    go_ret2
    exact ⟨.inl ⟨hv, rfl⟩, unhide B1⟩
  · exfalso
    have := hx.cps.len
    rw [← hx.size] at this
    omega
  · have hfew : cs.length ≤ 1099511627776 := by have := hx.cps.len; rw [← hx.size] at this; omega
    obtain ⟨ar, cr, rfl, hc1, hc2⟩ := own_sl ho
    have HSM := hide hsm
    clear hsm
    obtain ⟨n, hn⟩ : ∃ n, cs.length = n := ⟨_, rfl⟩
    have HN := hide hn
    have HX := hide hx
    have HO := hide ho
    rw [hn] at HO hfew hc1 ⊢
    have hal : Below w1.heap.size w1 (w1.alloc (.cells #[.int .i64 0] 3)) := (Below.refl _ _).alloc (Nat.le_refl _) _
    have B2 := hide ((unhide B1).trans (hal.mono (unhide B1).size))
    have S2 : Hid ((w1.alloc (.cells #[.int .i64 0] 3)).ownsRow w.heap.size 3 1 (.slice (some ⟨w1.heap.size, 0, none⟩) 1 1) (sts (cs.take 0)).length (nsv (sts (cs.take 0)))) := hide (own_row (RowAt.new w1 3 [.int .i64 0]) (unhide B1).size (by show 1 ≤ maxLen; unfold maxLen; omega))
    have O2 := hide (own_call (unhide HO) hal)
    clear hx ho hn h1 hal HO
    go_wp2_with fail
    go_loopw [6, 20] (fun tv i wr => ∃ (k : Nat) (a : Option Addr) (c : Nat), k ≤ n ∧ i = .int .i64 (k : Int) ∧ tv = .slice a (sts (cs.take k)).length c ∧ Hid (wr.ownsRow w.heap.size 3 1 (.slice a (sts (cs.take k)).length c) (sts (cs.take k)).length (nsv (sts (cs.take k)))) ∧ Hid (wr.ownsRow w.heap.size 21 1 (.slice ar n cr) n (rnv cs)) ∧ Hid (Below w.heap.size w wr)) (fun _ i _ => ((n : Int) - intOf i).toNat)
    case atStart => exact ⟨0, _, _, by omega, by simp, rfl, S2, O2, B2⟩
    case round =>
      clear S2 O2 B2
      obtain ⟨k, a, c, hk, rfl, rfl, HS, HO, HB⟩ := hrel
      obtain ⟨m, hm⟩ : ∃ z, (sts (cs.take k)).length = z := ⟨_, rfl⟩
      have hml : m ≤ k + 1 := by rw [← hm]; have := sts_len (cs.take k); rw [List.length_take] at this; omega
      have HM := hide hm
      rw [hm] at HS ⊢
      clear hm
      by_cases c1 : (k : Int) < (n : Int)
      · obtain ⟨x, hx⟩ : ∃ x, cs[k]? = some x := ⟨_, List.getElem?_eq_getElem (by rw [unhide HN]; omega)⟩
        obtain ⟨gr, cg, e, hcell, _, hcc, _⟩ := own_rd (unhide HO) (rnv_at hx)
        injection e with e1 _ e3
        subst e1 e3
        have HNX := hide (sts_next hx)
        obtain ⟨y, hy⟩ : ∃ y : Int, (rn x : Int) = y := ⟨_, rfl⟩
        rw [hy] at hcell
        have HY := hide hy
        have k0 : (0 : Int) ≤ (k : Int) := by omega
        clear hx hy
        by_cases h10 : y = 10
        · have h10' : (y == 10) = true := by simp [h10]
          have hr10 : rn x = 10 := by have := unhide HY; omega
          have HR10 := hide hr10
          clear h10 hr10
          have hal : Below wr.heap.size wr (wr.alloc (.cells #[.int .i64 ((k : Int) + 1)] 3)) := (Below.refl _ _).alloc (Nat.le_refl _) _
          have HB2 := hide ((unhide HB).trans (hal.mono (unhide HB).size))
          have HS2 := hide (own_call (unhide HS) hal)
          have HO2 := hide (own_call (unhide HO) hal)
          have HC2 := hide ((RowAt.new wr 3 [.int .i64 ((k : Int) + 1)]).cell 0)
          clear hal HB HS HO
          go_wp2_with (at_builtin; refine unhide ?_)
          obtain ⟨i9, hi9, hz9, hs9, hb9⟩ := info64
          refine hide ?_
          refine wpList_append_own_at _ rfl _ _ 38 rfl w.heap.size 3 i9 (.int .i64 0) 1 8 Tryd.underlying38 hi9 hz9 hs9 hb9 rfl (by decide) (.slice a m c) m (nsv (sts (cs.take k))) rfl (unhide HS2) ⟨wr.heap.size, 0, none⟩ 1 1 [.int .i64 ((k : Int) + 1)] rfl rfl (fun j u hj => by
            match j, hj with
            | 0, hj =>
              obtain rfl : (.int .i64 ((k : Int) + 1) : Value) = u := by simpa using hj
              exact unhide HC2) (fun u hu => by rw [List.mem_singleton] at hu; rw [hu]; rfl) (by unfold maxLen; omega) (by omega) (unhide HB2).size ?_
          intro v' w3 ho hg _ _
          obtain ⟨a3, c3, rfl, _⟩ := own_sl ho
          have o3 := grown_only hg
          have HB3 := hide ((unhide HB2).trans (o3.below (unhide HB2).size (fun q hq => ((unhide HS2).lt q hq).1)))
          have HO3 := hide (own_only (unhide HO2) o3 (fun q hq hp => own_ne (unhide HO2) (unhide HS2) (by decide) q hq hp))
          have HS3 := hide ho
          clear ho hg o3 HB2 HS2 HO2 HC2 i9 hi9 hz9 hs9 hb9
          go_wp2_with fail
          have hl : (sts (cs.take (k + 1))).length = m + 1 := by rw [unhide HNX, if_pos (unhide HR10), List.length_append, unhide HM]; rfl
          exact ⟨⟨k + 1, a3, c3, by omega, by simp, by rw [hl], hide (by rw [hl]; have h9 := unhide HS3; rw [unhide HNX, if_pos (unhide HR10), nsv_app]; exact h9), HO3, HB3⟩, by simp [intOf]; omega⟩
        · have h10' : (y == 10) = false := by simp [h10]
          have hr10 : ¬ rn x = 10 := by have := unhide HY; omega
          have HR10 := hide hr10
          clear h10 hr10
          go_wp2_with fail
          have hl : sts (cs.take (k + 1)) = sts (cs.take k) := by rw [unhide HNX, if_neg (unhide HR10)]; simp
          exact ⟨⟨k + 1, a, c, by omega, by simp, by rw [hl, unhide HM], hide (by rw [hl, unhide HM]; exact unhide HS), HO, HB⟩, by simp [intOf]; omega⟩
      · obtain rfl : n = k := by omega
        have HT : Hid (cs.take n = cs) := hide (List.take_of_length_le (by rw [unhide HN]; exact Nat.le_refl _))
        have hI : Ix (wr.alloc (.cells #[.slice ar n cr, .slice a m c] 64)) w.heap.size wr.heap.size (.slice ar n cr) (.slice a m c) cs := by
          have hal : Below wr.heap.size wr (wr.alloc (.cells #[.slice ar n cr, .slice a m c] 64)) := (Below.refl _ _).alloc (Nat.le_refl _) _
          have h1 := own_call (unhide HO) hal
          have h2 := own_call (unhide HS) hal
          have h3 := unhide HM
          rw [unhide HT] at h2 h3
          exact ⟨RowAt.new wr 64 _, by rw [unhide HN]; exact h1, by rw [h3]; exact h2, (unhide HB).size, by have h9 := unhide HSM; rw [unhide HN] at h9 ⊢; exact h9⟩
        have HI := hide hI
        have HB2 := hide ((unhide HB).alloc (unhide HB).size (.cells #[.slice ar n cr, .slice a m c] 64))
        clear hI HB HO HS
        go_wp2_with fail
        go_ret2
        exact ⟨.inr ⟨cs, _, _, _, unhide HX, rfl, unhide HI⟩, unhide HB2⟩
end Go.Proofs.YtdnbhomjfgpcfaaDoor
