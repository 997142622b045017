/- An index and what reads it: from a text's code points to where lines begin, what is found. -/
import Derived.Test.YtdnbhomjfgpcfaaDoorAwk
import Derived.Laws.IdiomStrings
import Derived.Laws.Cover4
import Derived.Maps.AppendAt
import Derived.Shelf.SlSorted.Search
import Derived.Ground.SlsoProg
import Derived.Test.YtdnbhomjfgpcfaaDoorRow0
import Derived.Test.YtdnbhomjfgpcfaaDoorRep
namespace Go.Proofs.YtdnbhomjfgpcfaaDoor
set_option linter.unusedVariables false
set_option linter.unusedSimpArgs false
open Go.ChangeShapes Go.WideShapes Go.ChangeAt Go.RowKit Go.Joins Go.Deep

/-- the number of a code point -/
def rn (c : List UInt8) : Nat := (Lib.decodeL c).1
def rnv (cs : List (List UInt8)) : List Value := cs.map (fun c => .int .i32 (rn c : Int))
theorem rnv_len (cs : List (List UInt8)) : (rnv cs).length = cs.length := by simp [rnv]
theorem rn_at {s : ByteArray} {cs : List (List UInt8)} (h : Tx s cs) {n : Nat} {c : List UInt8} (hc : cs[n]? = some c) : (Utf8.decode s (placeOf cs n)).1 = rn c := by
  have hn := (List.getElem?_eq_some_iff.1 hc).1
  have hd := drop_place h n
  have e : cs.drop n = c :: cs.drop (n + 1) := by
    rw [List.drop_eq_getElem_cons hn]
    rw [(List.getElem?_eq_some_iff.1 hc).2]
  have hcp := h.cps c (List.mem_of_getElem? hc)
  rw [← Lib.decodeL_drop, hd, e, List.flatten_cons, hcp.front]
  rfl
theorem runes_from {s : ByteArray} {cs : List (List UInt8)} (h : Tx s cs) : ∀ (k n bound : Nat) (acc : Array Value), k + n = cs.length → k ≤ bound → Conv.runesFrom s bound (placeOf cs n) acc = acc ++ (rnv (cs.drop n)).toArray
  | 0, n, bound, acc, hk, hb => by
    have e : cs.drop n = [] := List.drop_of_length_le (by omega)
    have hp : ¬ placeOf cs n < s.size := by
      have h1 := congrArg List.length (drop_place h n)
      rw [e, List.length_drop, ← Lib.size_eq] at h1
      simp at h1
      omega
    rw [e]
    cases bound with
    | zero => simp [Conv.runesFrom, rnv]
    | succ b => unfold Conv.runesFrom; rw [if_neg hp]; simp [rnv]
  | k + 1, n, bound, acc, hk, hb => by
    obtain ⟨b, rfl⟩ : ∃ b, bound = b + 1 := ⟨bound - 1, by omega⟩
    have hn : n < cs.length := by omega
    obtain ⟨c, hc⟩ : ∃ c, cs[n]? = some c := ⟨_, List.getElem?_eq_getElem hn⟩
    obtain ⟨h1, h2⟩ := placeOf_next h hn
    have e : cs.drop n = c :: cs.drop (n + 1) := by
      rw [List.drop_eq_getElem_cons hn]
      rw [(List.getElem?_eq_some_iff.1 hc).2]
    unfold Conv.runesFrom
    rw [if_pos h2]
    simp only
    rw [← h1, runes_from h k (n + 1) b _ (by omega) (by omega), e, rn_at h hc]
    simp [rnv]
theorem runes_eq {s : ByteArray} {cs : List (List UInt8)} (h : Tx s cs) : Conv.runesFrom s s.size 0 #[] = (rnv cs).toArray := by
  have h1 := runes_from h cs.length 0 s.size #[] (by omega) (by rw [h.size]; exact h.cps.len)
  rw [placeOf_zero] at h1
  rw [h1]
  simp
def TRunR (s : ByteArray) (most : Int) (w : World) (r : Ending) (w' : World) : Prop := (Lib.validD s.data.toList = false ∧ r = .returned (.tuple #[.slice none 0 0, .int .i64 21]) ∨ ∃ cs, Tx s cs ∧ (most < (cs.length : Int) ∧ r = .returned (.tuple #[.slice none 0 0, .int .i64 4]) ∨ (cs.length : Int) ≤ most ∧ ∃ v, r = .returned (.tuple #[v, .int .i64 0]) ∧ w'.ownsRow w.heap.size 21 1 v cs.length (rnv cs) ∧ ∃ g c, v = .slice (some ⟨g, 0, none⟩) cs.length c)) ∧ Below w.heap.size w w'
theorem runes_own (w : World) {s : ByteArray} {cs : List (List UInt8)} (h : Tx s cs) (hs : s.size ≤ 70368744177664) : ∃ v w', (convert 9 40 (.string s)).run Tryd.prog w = .ok v w' ∧ w'.ownsRow w.heap.size 21 1 v cs.length (rnv cs) ∧ (∃ g c, v = .slice (some ⟨g, 0, none⟩) cs.length c) ∧ Below w.heap.size w w' := by
  have hfew : cs.length ≤ s.size := by have := h.cps.len; rw [← h.size] at this; exact this
  have e := run_runes_of_string (P := Tryd.prog) w 9 40 21 s Tryd.underlying9 Tryd.underlying40 Tryd.underlying21 (by rw [runes_eq h]; simp [rnv]; omega)
  rw [runes_eq h] at e
  have hsz : (rnv cs).toArray.size = cs.length := by simp [rnv]
  have hge := grownCap_ge w cs.length 0 21
  have hle := grownCap_le_maxLen w cs.length 0 21 (by unfold maxLen; omega)
  rw [hsz] at e
  generalize hK : grownCap w cs.length 0 21 = K at e hge hle
  refine ⟨_, _, e, ⟨by rw [rnv_len]; simp, .inr ⟨w.heap.size, K, (rnv cs).toArray ++ Array.replicate (K - cs.length) (.int .i32 0), rfl, Nat.le_refl _, ?_, hge, hle, by simp [rnv]; omega, by simp [rnv_len]⟩⟩, ⟨_, _, rfl⟩, (Below.drew (Below.refl _ _)).alloc (by show w.heap.size ≤ w.heap.size; exact Nat.le_refl _) _⟩
  exact RowAt.new w.drew 21 ((rnv cs).toArray ++ Array.replicate (K - cs.length) (Value.int .i32 0)).toList
set_option maxRecDepth 100000 in
set_option maxHeartbeats 4000000 in
theorem trunes_any (s : ByteArray) (most : Int) (w : World) (hT : UT w) (hs : s.size ≤ 70368744177664) : Calls Tryd.prog 44 #[.string s, .int .i64 most] w fun r w' => TRunR s most w r w' := by
  have KV := hide (valid_any s w hT (by omega))
  have KC := hide (fun W => counts_any s W (by omega))
  cases hv : Lib.validD s.data.toList with
  | false =>
    rw [hv] at KV
    have hv' := hv
    clear hv
    go_enter Tryd.func44, Tryd.ntmps44
    go_wp2_with fail
    refine Calls.mono (unhide KV) ?_
    rintro r w1 ⟨rfl, b1⟩
    have B1 := hide b1
    clear b1
    go_wp2_with fail
    go_ret2
    exact ⟨.inl ⟨hv', rfl⟩, unhide B1⟩
  | true =>
    obtain ⟨cs, hx⟩ := tx_of_valid hv
    rw [hv] at KV
    rw [hx.count] at KC
    have HX := hide hx
    have hfew : cs.length ≤ s.size := by have := hx.cps.len; rw [← hx.size] at this; exact this
    have HF := hide (And.intro hfew hs)
    obtain ⟨n, hn⟩ : ∃ n, cs.length = n := ⟨_, rfl⟩
    rw [hn] at KC
    have HN := hide hn
    clear hv hx hfew hs hn hT
    go_enter Tryd.func44, Tryd.ntmps44
    go_wp2_with fail
    refine Calls.mono (unhide KV) ?_
    rintro r w1 ⟨rfl, b1⟩
    have B1 := hide b1
    clear b1
    go_wp2_with fail
    refine Calls.mono (unhide KC _) ?_
    rintro r w2 ⟨rfl, b2⟩
    have B2 := hide ((unhide B1).trans (b2.mono (unhide B1).size))
    clear b2
    by_cases hm : most < (n : Int)
    · go_wp2_with fail
      go_ret2
      exact ⟨.inr ⟨cs, unhide HX, .inl ⟨by rw [unhide HN]; exact hm, rfl⟩⟩, unhide B2⟩
    · obtain ⟨v, w3, e, ho, hsm, b3⟩ := runes_own w2 (unhide HX) (unhide HF).2
      have B3 := hide ((unhide B2).trans (b3.mono (unhide B2).size))
      have HO := hide (And.intro (own_base ho (unhide B2).size) hsm)
      clear ho b3 hsm
      go_wp2_with fail
      go_ret2
      exact ⟨.inr ⟨cs, unhide HX, .inr ⟨by rw [unhide HN]; omega, v, rfl, unhide HO⟩⟩, unhide B3⟩
end Go.Proofs.YtdnbhomjfgpcfaaDoor

namespace Go.Proofs.YtdnbhomjfgpcfaaDoor
set_option linter.unusedVariables false
set_option linter.unusedSimpArgs false
open Go.ChangeShapes Go.WideShapes Go.ChangeAt Go.RowKit Go.Joins Go.Deep

/-- where lines begin, behind the first one -/
def stF : Nat → List (List UInt8) → List Nat
  | _, [] => []
  | i, c :: q => if rn c = 10 then (i + 1) :: stF (i + 1) q else stF (i + 1) q
def sts (cs : List (List UInt8)) : List Nat := 0 :: stF 0 cs
theorem stF_app : ∀ (a : List (List UInt8)) (i : Nat) (b : List (List UInt8)), stF i (a ++ b) = stF i a ++ stF (i + a.length) b
  | [], i, b => by simp [stF]
  | c :: q, i, b => by
    have h := stF_app q (i + 1) b
    rw [List.cons_append, stF, stF, h, List.length_cons, show i + 1 + q.length = i + (q.length + 1) by omega]
    split <;> simp
theorem sts_next {cs : List (List UInt8)} {k : Nat} {c : List UInt8} (h : cs[k]? = some c) : sts (cs.take (k + 1)) = sts (cs.take k) ++ (if rn c = 10 then [k + 1] else []) := by
  have hk := (List.getElem?_eq_some_iff.1 h).1
  rw [List.take_add_one, h]
  unfold sts
  rw [Option.toList_some, stF_app, List.length_take, Nat.min_eq_left (by omega)]
  simp only [stF, Nat.zero_add, List.cons_append]
theorem stF_len : ∀ (a : List (List UInt8)) (i : Nat), (stF i a).length ≤ a.length
  | [], i => by simp [stF]
  | c :: q, i => by
    have h := stF_len q (i + 1)
    rw [stF]
    split
    · simp; omega
    · simp; omega
theorem sts_len (cs : List (List UInt8)) : (sts cs).length ≤ cs.length + 1 := by have := stF_len cs 0; simp [sts]; omega
def nsv (l : List Nat) : List Value := l.map (fun (n : Nat) => .int .i64 (n : Int))
theorem nsv_app (a b : List Nat) : nsv (a ++ b) = nsv a ++ nsv b := by simp [nsv]
theorem nsv_len (l : List Nat) : (nsv l).length = l.length := by simp [nsv]
/-- an index in block g -/
structure Ix (w : World) (B g : Nat) (vr vs : Value) (cs : List (List UInt8)) : Prop where
  row : RowAt w g 64 [vr, vs]
  r : w.ownsRow B 21 1 vr cs.length (rnv cs)
  s : w.ownsRow B 3 1 vs (sts cs).length (nsv (sts cs))
  gB : B ≤ g
  sm : ∃ gr cr, vr = .slice (some ⟨gr, 0, none⟩) cs.length cr
theorem Ix.call {w w' : World} {B g : Nat} {vr vs : Value} {cs : List (List UInt8)} (h : Ix w B g vr vs cs) (hb : Below w.heap.size w w') : Ix w' B g vr vs cs := ⟨h.row.below hb h.row.lt, own_call h.r hb, own_call h.s hb, h.gB, h.sm⟩
theorem info64 : ∃ i, Tryd.prog.info? 3 = some i ∧ i.zero = some (.int .i64 0) ∧ i.size = 1 ∧ i.bytes = 8 := info_parts (by kernel_rfl)
theorem own_row {w : World} {B e g : Nat} {xs : List Value} (h : RowAt w g e xs) (hB : B ≤ g) (hm : xs.length ≤ maxLen) : w.ownsRow B e 1 (.slice (some ⟨g, 0, none⟩) xs.length xs.length) xs.length xs :=
  ⟨by simp, .inr ⟨g, xs.length, xs.toArray, rfl, hB, h, Nat.le_refl _, hm, by simp, by simp⟩⟩
theorem own_sl {w : World} {B e n : Nat} {v : Value} {xs : List Value} (h : w.ownsRow B e 1 v n xs) : ∃ a c, v = .slice a n c ∧ n ≤ c ∧ c ≤ maxLen := by
  rcases h.2 with ⟨rfl, h0⟩ | ⟨g, cap, cur, rfl, e2, e3, e4, e5, e6⟩
  · exact ⟨none, 0, by rw [h0], by omega, by unfold maxLen; omega⟩
  · exact ⟨_, _, rfl, e4, e5⟩
theorem own_rd {w : World} {B e n : Nat} {v : Value} {xs : List Value} (h : w.ownsRow B e 1 v n xs) {i : Nat} {u : Value} (hu : xs[i]? = some u) : ∃ g c, v = .slice (some ⟨g, 0, none⟩) n c ∧ w.cell? ⟨g, i, none⟩ = some u ∧ i < n ∧ n ≤ c ∧ c ≤ maxLen := by
  have hlt := (List.getElem?_eq_some_iff.1 hu).1
  rw [h.1, Nat.mul_one] at hlt
  rcases h.2 with ⟨_, h0⟩ | ⟨g, cap, cur, rfl, e2, e3, e4, e5, e6, e7⟩
  · omega
  · refine ⟨g, cap, rfl, ?_, hlt, e4, e5⟩
    have := World.ownsRow.cells h (g := g) rfl i u hu
    simpa [Addr.add_lit] using this
def NewR (s : ByteArray) (w : World) (r : Ending) (w' : World) : Prop := (Lib.validD s.data.toList = false ∧ r = .returned (.tuple #[.pointer none, .int .i64 21]) ∨ ∃ cs g vr vs, Tx s cs ∧ r = .returned (.tuple #[.pointer (some ⟨g, 0, none⟩), .int .i64 0]) ∧ Ix w' w.heap.size g vr vs cs) ∧ Below w.heap.size w w'
theorem rnv_at {cs : List (List UInt8)} {k : Nat} {c : List UInt8} (h : cs[k]? = some c) : (rnv cs)[k]? = some (.int .i32 (rn c : Int)) := by simp [rnv, h]
set_option maxRecDepth 100000 in
set_option maxHeartbeats 4000000 in
theorem new_any (s : ByteArray) (w : World) (hT : UT w) (hs : s.size ≤ 1099511627776) : Calls Tryd.prog 14 #[.string s] w fun r w' => NewR s w r w' := by
  have K := hide (trunes_any s 9223372036854775807 w hT (by omega))
  clear hT
  go_enter Tryd.func14, Tryd.ntmps14
  go_wp2_with fail
  refine Calls.mono (unhide K) ?_
  rintro r w1 ⟨h1, b1⟩
  have B1 := hide b1
  clear b1
  rcases h1 with ⟨hv, rfl⟩ | ⟨cs, hx, ⟨h1, rfl⟩ | ⟨h1, v, rfl, ho, hsm⟩⟩
  · go_wp2_with fail
    go_ret2
    exact ⟨.inl ⟨hv, rfl⟩, unhide B1⟩
  · exfalso
    have := hx.cps.len
    rw [← hx.size] at this
    omega
  · have hfew : cs.length ≤ 1099511627776 := by have := hx.cps.len; rw [← hx.size] at this; omega
    obtain ⟨ar, cr, rfl, hc1, hc2⟩ := own_sl ho
    have HSM := hide hsm
    clear hsm
    obtain ⟨n, hn⟩ : ∃ n, cs.length = n := ⟨_, rfl⟩
    have HN := hide hn
    have HX := hide hx
    have HO := hide ho
    rw [hn] at HO hfew hc1 ⊢
    have hal : Below w1.heap.size w1 (w1.alloc (.cells #[.int .i64 0] 3)) := (Below.refl _ _).alloc (Nat.le_refl _) _
    have B2 := hide ((unhide B1).trans (hal.mono (unhide B1).size))
    have S2 : Hid ((w1.alloc (.cells #[.int .i64 0] 3)).ownsRow w.heap.size 3 1 (.slice (some ⟨w1.heap.size, 0, none⟩) 1 1) (sts (cs.take 0)).length (nsv (sts (cs.take 0)))) := hide (own_row (RowAt.new w1 3 [.int .i64 0]) (unhide B1).size (by show 1 ≤ maxLen; unfold maxLen; omega))
    have O2 := hide (own_call (unhide HO) hal)
    clear hx ho hn h1 hal HO
    go_wp2_with fail
    go_loopw [6, 20] (fun tv i wr => ∃ (k : Nat) (a : Option Addr) (c : Nat), k ≤ n ∧ i = .int .i64 (k : Int) ∧ tv = .slice a (sts (cs.take k)).length c ∧ Hid (wr.ownsRow w.heap.size 3 1 (.slice a (sts (cs.take k)).length c) (sts (cs.take k)).length (nsv (sts (cs.take k)))) ∧ Hid (wr.ownsRow w.heap.size 21 1 (.slice ar n cr) n (rnv cs)) ∧ Hid (Below w.heap.size w wr)) (fun _ i _ => ((n : Int) - intOf i).toNat)
    case atStart => exact ⟨0, _, _, by omega, by simp, rfl, S2, O2, B2⟩
    case round =>
      clear S2 O2 B2
      obtain ⟨k, a, c, hk, rfl, rfl, HS, HO, HB⟩ := hrel
      obtain ⟨m, hm⟩ : ∃ z, (sts (cs.take k)).length = z := ⟨_, rfl⟩
      have hml : m ≤ k + 1 := by rw [← hm]; have := sts_len (cs.take k); rw [List.length_take] at this; omega
      have HM := hide hm
      rw [hm] at HS ⊢
      clear hm
      by_cases c1 : (k : Int) < (n : Int)
      · obtain ⟨x, hx⟩ : ∃ x, cs[k]? = some x := ⟨_, List.getElem?_eq_getElem (by rw [unhide HN]; omega)⟩
        obtain ⟨gr, cg, e, hcell, _, hcc, _⟩ := own_rd (unhide HO) (rnv_at hx)
        injection e with e1 _ e3
        subst e1 e3
        have HNX := hide (sts_next hx)
        obtain ⟨y, hy⟩ : ∃ y : Int, (rn x : Int) = y := ⟨_, rfl⟩
        rw [hy] at hcell
        have HY := hide hy
        have k0 : (0 : Int) ≤ (k : Int) := by omega
        clear hx hy
        by_cases h10 : y = 10
        · have h10' : (y == 10) = true := by simp [h10]
          have hr10 : rn x = 10 := by have := unhide HY; omega
          have HR10 := hide hr10
          clear h10 hr10
          have hal : Below wr.heap.size wr (wr.alloc (.cells #[.int .i64 ((k : Int) + 1)] 3)) := (Below.refl _ _).alloc (Nat.le_refl _) _
          have HB2 := hide ((unhide HB).trans (hal.mono (unhide HB).size))
          have HS2 := hide (own_call (unhide HS) hal)
          have HO2 := hide (own_call (unhide HO) hal)
          have HC2 := hide ((RowAt.new wr 3 [.int .i64 ((k : Int) + 1)]).cell 0)
          clear hal HB HS HO
          go_wp2_with (at_builtin; refine unhide ?_)
          obtain ⟨i9, hi9, hz9, hs9, hb9⟩ := info64
          refine hide ?_
          refine wpList_append_own_at _ rfl _ _ 38 rfl w.heap.size 3 i9 (.int .i64 0) 1 8 Tryd.underlying38 hi9 hz9 hs9 hb9 rfl (by decide) (.slice a m c) m (nsv (sts (cs.take k))) rfl (unhide HS2) ⟨wr.heap.size, 0, none⟩ 1 1 [.int .i64 ((k : Int) + 1)] rfl rfl (fun j u hj => by
            match j, hj with
            | 0, hj =>
              obtain rfl : (.int .i64 ((k : Int) + 1) : Value) = u := by simpa using hj
              exact unhide HC2) (fun u hu => by rw [List.mem_singleton] at hu; rw [hu]; rfl) (by unfold maxLen; omega) (by omega) (unhide HB2).size ?_
          intro v' w3 ho hg _ _
          obtain ⟨a3, c3, rfl, _⟩ := own_sl ho
          have o3 := grown_only hg
          have HB3 := hide ((unhide HB2).trans (o3.below (unhide HB2).size (fun q hq => ((unhide HS2).lt q hq).1)))
          have HO3 := hide (own_only (unhide HO2) o3 (fun q hq hp => own_ne (unhide HO2) (unhide HS2) (by decide) q hq hp))
          have HS3 := hide ho
          clear ho hg o3 HB2 HS2 HO2 HC2 i9 hi9 hz9 hs9 hb9
          go_wp2_with fail
          have hl : (sts (cs.take (k + 1))).length = m + 1 := by rw [unhide HNX, if_pos (unhide HR10), List.length_append, unhide HM]; rfl
          exact ⟨⟨k + 1, a3, c3, by omega, by simp, by rw [hl], hide (by rw [hl]; have h9 := unhide HS3; rw [unhide HNX, if_pos (unhide HR10), nsv_app]; exact h9), HO3, HB3⟩, by simp [intOf]; omega⟩
        · have h10' : (y == 10) = false := by simp [h10]
          have hr10 : ¬ rn x = 10 := by have := unhide HY; omega
          have HR10 := hide hr10
          clear h10 hr10
          go_wp2_with fail
          have hl : sts (cs.take (k + 1)) = sts (cs.take k) := by rw [unhide HNX, if_neg (unhide HR10)]; simp
          exact ⟨⟨k + 1, a, c, by omega, by simp, by rw [hl, unhide HM], hide (by rw [hl, unhide HM]; exact unhide HS), HO, HB⟩, by simp [intOf]; omega⟩
      · obtain rfl : n = k := by omega
        have HT : Hid (cs.take n = cs) := hide (List.take_of_length_le (by rw [unhide HN]; exact Nat.le_refl _))
        have hI : Ix (wr.alloc (.cells #[.slice ar n cr, .slice a m c] 64)) w.heap.size wr.heap.size (.slice ar n cr) (.slice a m c) cs := by
          have hal : Below wr.heap.size wr (wr.alloc (.cells #[.slice ar n cr, .slice a m c] 64)) := (Below.refl _ _).alloc (Nat.le_refl _) _
          have h1 := own_call (unhide HO) hal
          have h2 := own_call (unhide HS) hal
          have h3 := unhide HM
          rw [unhide HT] at h2 h3
          exact ⟨RowAt.new wr 64 _, by rw [unhide HN]; exact h1, by rw [h3]; exact h2, (unhide HB).size, by have h9 := unhide HSM; rw [unhide HN] at h9 ⊢; exact h9⟩
        have HI := hide hI
        have HB2 := hide ((unhide HB).alloc (unhide HB).size (.cells #[.slice ar n cr, .slice a m c] 64))
        clear hI HB HO HS
        go_wp2_with fail
        go_ret2
        exact ⟨.inr ⟨cs, _, _, _, unhide HX, rfl, unhide HI⟩, unhide HB2⟩
end Go.Proofs.YtdnbhomjfgpcfaaDoor

namespace Go.Proofs.YtdnbhomjfgpcfaaDoor
set_option linter.unusedVariables false
set_option linter.unusedSimpArgs false
open Go.ChangeShapes Go.WideShapes Go.ChangeAt Go.RowKit Go.Joins Go.Deep

def NoIx (w : World) (p : Option Addr) : Prop := p = none ∨ ∃ g, p = some ⟨g, 0, none⟩ ∧ w.cell? ⟨g, 0, none⟩ = some (.slice none 0 0) ∧ w.cell? ⟨g, 1, none⟩ = some (.slice none 0 0)
theorem len_nob (p : Option Addr) (w : World) (h : NoIx w p) : Calls Tryd.prog 22 #[.pointer p] w fun r w' => r = .returned (.int .i64 0) ∧ w = w' := by
  rcases h with rfl | ⟨g, rfl, h0, h1⟩
  · go_enter Tryd.func22, Tryd.ntmps22
    go_wp2
    go_ret
    exact ⟨rfl, rfl⟩
  · go_enter Tryd.func22, Tryd.ntmps22
    go_wp2
    go_ret
    exact ⟨rfl, rfl⟩
theorem size_nob (p : Option Addr) (w : World) (h : NoIx w p) : Calls Tryd.prog 24 #[.pointer p] w fun r w' => r = .returned (.int .i64 0) ∧ w = w' := by
  rcases h with rfl | ⟨g, rfl, h0, h1⟩
  · go_enter Tryd.func24, Tryd.ntmps24
    go_wp2
    go_ret
    exact ⟨rfl, rfl⟩
  · go_enter Tryd.func24, Tryd.ntmps24
    go_wp2
    go_ret
    exact ⟨rfl, rfl⟩
theorem made_nob (p : Option Addr) (w : World) (h : NoIx w p) : Calls Tryd.prog 46 #[.pointer p] w fun r w' => r = .returned (.bool false) ∧ w = w' := by
  have K := hide (len_nob p w h)
  clear h
  go_enter Tryd.func46, Tryd.ntmps46
  go_wp2_with fail
  refine Calls.mono (unhide K) ?_
  rintro r w' ⟨rfl, rfl⟩
  go_wp2
  go_ret
  exact ⟨rfl, rfl⟩
theorem line_nob (p : Option Addr) (n m k : Int) (s t : ByteArray) (w : World) (h : NoIx w p) : Calls Tryd.prog 16 #[.pointer p, .int .i64 n] w fun r w' => r = .returned (.tuple #[.string ⟨#[]⟩, .int .i64 6]) ∧ w = w' := by
  have K := hide (made_nob p w h)
  clear h
  go_enter Tryd.func16, Tryd.ntmps16
  go_wp2_with fail
  refine Calls.mono (unhide K) ?_
  rintro r w' ⟨rfl, rfl⟩
  go_wp2_with fail
  go_ret2
  exact ⟨rfl, rfl⟩
theorem at_nob (p : Option Addr) (n m k : Int) (s t : ByteArray) (w : World) (h : NoIx w p) : Calls Tryd.prog 18 #[.pointer p, .int .i64 n, .int .i64 m] w fun r w' => r = .returned (.tuple #[.int .i64 0, .int .i64 6]) ∧ w = w' := by
  have K := hide (made_nob p w h)
  clear h
  go_enter Tryd.func18, Tryd.ntmps18
  go_wp2_with fail
  refine Calls.mono (unhide K) ?_
  rintro r w' ⟨rfl, rfl⟩
  go_wp2_with fail
  go_ret2
  exact ⟨rfl, rfl⟩
theorem where_nob (p : Option Addr) (n m k : Int) (s t : ByteArray) (w : World) (h : NoIx w p) : Calls Tryd.prog 20 #[.pointer p, .int .i64 n] w fun r w' => r = .returned (.tuple #[.int .i64 0, .int .i64 0, .int .i64 6]) ∧ w = w' := by
  have K := hide (made_nob p w h)
  clear h
  go_enter Tryd.func20, Tryd.ntmps20
  go_wp2_with fail
  refine Calls.mono (unhide K) ?_
  rintro r w' ⟨rfl, rfl⟩
  go_wp2_with fail
  go_ret3
  exact ⟨rfl, rfl⟩
theorem word_nob (p : Option Addr) (n m k : Int) (s t : ByteArray) (w : World) (h : NoIx w p) : Calls Tryd.prog 27 #[.pointer p, .int .i64 n] w fun r w' => r = .returned (.tuple #[.int .i64 0, .int .i64 0, .int .i64 6]) ∧ w = w' := by
  have K := hide (made_nob p w h)
  clear h
  go_enter Tryd.func27, Tryd.ntmps27
  go_wp2_with fail
  refine Calls.mono (unhide K) ?_
  rintro r w' ⟨rfl, rfl⟩
  go_wp2_with fail
  go_ret3
  exact ⟨rfl, rfl⟩
theorem find_nob (p : Option Addr) (n m k : Int) (s t : ByteArray) (w : World) (h : NoIx w p) : Calls Tryd.prog 29 #[.pointer p, .string s] w fun r w' => r = .returned (.tuple #[.slice none 0 0, .int .i64 6]) ∧ w = w' := by
  have K := hide (made_nob p w h)
  clear h
  go_enter Tryd.func29, Tryd.ntmps29
  go_wp2_with fail
  refine Calls.mono (unhide K) ?_
  rintro r w' ⟨rfl, rfl⟩
  go_wp2_with fail
  go_ret2
  exact ⟨rfl, rfl⟩
theorem swap_nob (p : Option Addr) (n m k : Int) (s t : ByteArray) (w : World) (h : NoIx w p) : Calls Tryd.prog 32 #[.pointer p, .string s, .string t] w fun r w' => r = .returned (.tuple #[.slice none 0 0, .int .i64 6]) ∧ w = w' := by
  have K := hide (made_nob p w h)
  clear h
  go_enter Tryd.func32, Tryd.ntmps32
  go_wp2_with fail
  refine Calls.mono (unhide K) ?_
  rintro r w' ⟨rfl, rfl⟩
  go_wp2_with fail
  go_ret2
  exact ⟨rfl, rfl⟩
theorem move_nob (p : Option Addr) (n m k : Int) (s t : ByteArray) (w : World) (h : NoIx w p) : Calls Tryd.prog 37 #[.pointer p, .int .i64 n, .int .i64 m, .int .i64 k] w fun r w' => r = .returned (.tuple #[.slice none 0 0, .int .i64 6]) ∧ w = w' := by
  have K := hide (made_nob p w h)
  clear h
  go_enter Tryd.func37, Tryd.ntmps37
  go_wp2_with fail
  refine Calls.mono (unhide K) ?_
  rintro r w' ⟨rfl, rfl⟩
  go_wp2_with fail
  go_ret2
  exact ⟨rfl, rfl⟩
theorem sts_pos (cs : List (List UInt8)) : 0 < (sts cs).length := by simp [sts]
/-- both slices of an index -/
theorem Ix.two {w : World} {B g : Nat} {vr vs : Value} {cs : List (List UInt8)} (h : Ix w B g vr vs cs) : ∃ ar cr as_ c_, vr = .slice ar cs.length cr ∧ vs = .slice as_ (sts cs).length c_ ∧ w.cell? ⟨g, 0, none⟩ = some (.slice ar cs.length cr) ∧ w.cell? ⟨g, 1, none⟩ = some (.slice as_ (sts cs).length c_) := by
  obtain ⟨ar, cr, e1, _⟩ := own_sl h.r
  obtain ⟨as_, c_, e2, _⟩ := own_sl h.s
  have q0 := h.row.cell 0
  have q1 := h.row.cell 1
  rw [e1] at q0
  rw [e2] at q1
  exact ⟨ar, cr, as_, c_, e1, e2, q0, q1⟩
theorem len_ok (g : Nat) (w : World) (a : Option Addr) (n c : Nat) (h : w.cell? ⟨g, 1, none⟩ = some (.slice a n c)) : Calls Tryd.prog 22 #[.pointer (some ⟨g, 0, none⟩)] w fun r w' => r = .returned (.int .i64 (n : Int)) ∧ w = w' := by
  go_enter Tryd.func22, Tryd.ntmps22
  go_wp2
  go_ret
  exact ⟨rfl, rfl⟩
theorem size_ok (g : Nat) (w : World) (a : Option Addr) (n c : Nat) (h : w.cell? ⟨g, 0, none⟩ = some (.slice a n c)) : Calls Tryd.prog 24 #[.pointer (some ⟨g, 0, none⟩)] w fun r w' => r = .returned (.int .i64 (n : Int)) ∧ w = w' := by
  go_enter Tryd.func24, Tryd.ntmps24
  go_wp2
  go_ret
  exact ⟨rfl, rfl⟩
theorem made_ok (g : Nat) (w : World) (a : Option Addr) (n c : Nat) (h : w.cell? ⟨g, 1, none⟩ = some (.slice a n c)) (hn : 0 < n) : Calls Tryd.prog 46 #[.pointer (some ⟨g, 0, none⟩)] w fun r w' => r = .returned (.bool true) ∧ w = w' := by
  have K := hide (len_ok g w a n c h)
  have hn' : (0 : Int) < (n : Int) := by omega
  clear h
  go_enter Tryd.func46, Tryd.ntmps46
  go_wp2_with fail
  refine Calls.mono (unhide K) ?_
  rintro r w' ⟨rfl, rfl⟩
  go_wp2
  go_ret
  exact ⟨by simp [hn], rfl⟩
theorem isLine_ok (g : Nat) (i : Int) (w : World) (a : Option Addr) (n c : Nat) (h : w.cell? ⟨g, 1, none⟩ = some (.slice a n c)) : Calls Tryd.prog 47 #[.pointer (some ⟨g, 0, none⟩), .int .i64 i] w fun r w' => r = .returned (.bool (decide (0 ≤ i ∧ i < (n : Int)))) ∧ w = w' := by
  by_cases h0 : 0 ≤ i
  · by_cases h1 : i < (n : Int)
    · rw [show decide (0 ≤ i ∧ i < (n : Int)) = true by simp [h0, h1]]
      go_enter Tryd.func47, Tryd.ntmps47
      go_wp2_with fail
      go_ret
      exact ⟨by first | rfl | simp [h1] | (simp; omega), rfl⟩
    · rw [show decide (0 ≤ i ∧ i < (n : Int)) = false by simp; omega]
      go_enter Tryd.func47, Tryd.ntmps47
      go_wp2_with fail
      go_ret
      exact ⟨by first | rfl | (simp; done) | (simp; omega), rfl⟩
  · rw [show decide (0 ≤ i ∧ i < (n : Int)) = false by simp; omega]
    go_enter Tryd.func47, Tryd.ntmps47
    go_wp2_with fail
    go_ret
    exact ⟨rfl, rfl⟩
/-- where a line ends -/
def endL (cs : List (List UInt8)) (i : Nat) : Nat := if i + 1 < (sts cs).length then (sts cs).getD (i + 1) 0 - 1 else cs.length
theorem stF_ge : ∀ (a : List (List UInt8)) (i n : Nat), n ∈ stF i a → i + 1 ≤ n ∧ n ≤ i + a.length
  | [], i, n, h => by simp [stF] at h
  | c :: q, i, n, h => by
    rw [stF] at h
    have ih := stF_ge q (i + 1) n
    rw [List.length_cons]
    split at h
    · rcases List.mem_cons.1 h with rfl | h
      · omega
      · have := ih h; omega
    · have := ih h; omega
theorem end_ok {w : World} {B g : Nat} {vr vs : Value} {cs : List (List UInt8)} (h : Ix w B g vr vs cs) {i : Nat} (hi : i < (sts cs).length) (hl : cs.length ≤ 1099511627776) : Calls Tryd.prog 48 #[.pointer (some ⟨g, 0, none⟩), .int .i64 (i : Int)] w fun r w' => r = .returned (.int .i64 (endL cs i : Int)) ∧ w = w' := by
  obtain ⟨ar, cr, as_, c_, e1, e2, q0, q1⟩ := h.two
  have hsl := sts_len cs
  by_cases h1 : i + 1 < (sts cs).length
  · obtain ⟨n, hn⟩ : ∃ n, (sts cs)[i + 1]? = some n := ⟨_, List.getElem?_eq_getElem h1⟩
    obtain ⟨gs, c2, e3, hc, _, hcc, _⟩ := own_rd h.s (u := .int .i64 (n : Int)) (i := i + 1) (by simp [nsv, hn])
    have hn1 : 1 ≤ n := by
      have hm : n ∈ stF 0 cs := by simp only [sts, List.getElem?_cons_succ] at hn; exact List.mem_of_getElem? hn
      exact (by have := (stF_ge cs 0 n hm).1; omega)
    have hn3 : n ≤ 1099511627776 := by
      have hm : n ∈ stF 0 cs := by simp only [sts, List.getElem?_cons_succ] at hn; exact List.mem_of_getElem? hn
      have := (stF_ge cs 0 n hm).2; omega
    have he : (endL cs i : Int) = (n : Int) - 1 := by unfold endL; rw [if_pos h1, List.getD_eq_getElem?_getD, hn]; simp; omega
    rw [e2] at e3
    injection e3 with e3 _ e4
    subst e3 e4
    rw [he]
    obtain ⟨m, hm⟩ : ∃ z, (sts cs).length = z := ⟨_, rfl⟩
    rw [hm] at q1 h1 hcc hsl
    have hlt : (i : Int) + 1 < (m : Int) := by omega
    have i0 : (0 : Int) ≤ (i : Int) + 1 := by omega
    clear he hn e1 e2 h hi
    go_enter Tryd.func48, Tryd.ntmps48
    go_wp2_with fail
    go_ret
    exact ⟨rfl, rfl⟩
  · have he : (endL cs i : Int) = (cs.length : Int) := by unfold endL; rw [if_neg h1]
    rw [he]
    obtain ⟨m, hm⟩ : ∃ z, (sts cs).length = z := ⟨_, rfl⟩
    rw [hm] at q1 h1 hsl
    have hlt : ¬ (i : Int) + 1 < (m : Int) := by omega
    have i1 : (i : Int) + 1 ≤ 1099511627777 := by omega
    clear he e1 e2 h hi
    go_enter Tryd.func48, Tryd.ntmps48
    go_wp2_with fail
    go_ret
    exact ⟨rfl, rfl⟩
end Go.Proofs.YtdnbhomjfgpcfaaDoor

namespace Go.Proofs.YtdnbhomjfgpcfaaDoor
set_option linter.unusedVariables false
set_option linter.unusedSimpArgs false
open Go.ChangeShapes Go.WideShapes Go.ChangeAt Go.RowKit Go.Joins Go.Deep

def atE (cs : List (List UInt8)) (i j : Int) : Value := if 0 ≤ i ∧ i < ((sts cs).length : Int) ∧ 0 ≤ j then .tuple #[.int .i64 (((sts cs).getD i.toNat 0 : Int) + min j ((endL cs i.toNat : Int) - ((sts cs).getD i.toNat 0 : Int))), .int .i64 0] else .tuple #[.int .i64 0, .int .i64 1]
theorem sts_le {cs : List (List UInt8)} {n : Nat} (h : n ∈ sts cs) : n ≤ cs.length := by
  rcases List.mem_cons.1 h with rfl | h
  · omega
  · have := (stF_ge cs 0 n h).2; omega
theorem end_le (cs : List (List UInt8)) (i : Nat) : endL cs i ≤ cs.length := by
  unfold endL
  split
  · rename_i h
    have h1 : (sts cs)[i + 1]? = some ((sts cs)[i + 1]'h) := List.getElem?_eq_getElem h
    rw [List.getD_eq_getElem?_getD, h1]
    have := sts_le (List.getElem_mem h)
    simp
    omega
  · omega
set_option maxRecDepth 100000 in
set_option maxHeartbeats 4000000 in
theorem at_ok {w : World} {B g : Nat} {vr vs : Value} {cs : List (List UInt8)} (h : Ix w B g vr vs cs) (i j : Int) (hl : cs.length ≤ 1099511627776) (hj : j ≤ 9223372036854775807) : Calls Tryd.prog 18 #[.pointer (some ⟨g, 0, none⟩), .int .i64 i, .int .i64 j] w fun r w' => r = .returned (atE cs i j) ∧ Below w.heap.size w w' := by
  obtain ⟨ar, cr, as_, c_, e1, e2, q0, q1⟩ := h.two
  have KM := hide (made_ok g w as_ _ c_ q1 (sts_pos cs))
  have KL := hide (isLine_ok g i w as_ _ c_ q1)
  by_cases hi : 0 ≤ i ∧ i < ((sts cs).length : Int)
  · by_cases hj0 : 0 ≤ j
    · obtain ⟨k, rfl⟩ : ∃ k : Nat, i = (k : Int) := ⟨i.toNat, by omega⟩
      have hk : k < (sts cs).length := by omega
      obtain ⟨f, hf⟩ : ∃ f, (sts cs)[k]? = some f := ⟨_, List.getElem?_eq_getElem hk⟩
      have hfl := sts_le (List.mem_of_getElem? hf)
      have hel := end_le cs k
      have HE := hide (fun q : Nat => (end_ok (h.call (Go.Joins.below_draws w.heap.size w q)) hk hl).mono (fun _ _ x => And.intro x.1 x.2.symm))
      obtain ⟨gs, c2, e3, hc, _, hcc, _⟩ := own_rd h.s (u := .int .i64 (f : Int)) (i := k) (by simp [nsv, hf])
      rw [e2] at e3
      injection e3 with e3 _ e4
      subst e3 e4
      have hv : atE cs (k : Int) j = .tuple #[.int .i64 ((f : Int) + min j ((endL cs k : Int) - (f : Int))), .int .i64 0] := by
        unfold atE
        rw [if_pos ⟨hi.1, hi.2, hj0⟩, Int.toNat_natCast, List.getD_eq_getElem?_getD, hf]
        rfl
      rw [hv]
      rw [show decide (0 ≤ (k : Int) ∧ (k : Int) < ((sts cs).length : Int)) = true by simp; omega] at KL
      obtain ⟨e, he⟩ : ∃ e, endL cs k = e := ⟨_, rfl⟩
      rw [he] at HE hel ⊢
      obtain ⟨m, hm⟩ : ∃ z, (sts cs).length = z := ⟨_, rfl⟩
      rw [hm] at q1 hk hcc hi
      have hlt : (k : Int) < (m : Int) := by omega
      have i0 : (0 : Int) ≤ (k : Int) := by omega
      have hj1 : ¬ j < 0 := by omega
      obtain ⟨z, hz⟩ : ∃ z : Int, min j ((e : Int) - (f : Int)) = z := ⟨_, rfl⟩
      have hzb : -1099511627776 ≤ z ∧ z ≤ 1099511627776 := by omega
      have HZ := hide hz
      rw [hz]
      clear hv h e1 e2 hf hi hm he
      go_enter Tryd.func18, Tryd.ntmps18
      go_wp2_with fail
      refine Calls.mono (unhide KM) ?_
      rintro r w1 ⟨rfl, rfl⟩
      go_wp2_with fail
      refine Calls.mono (unhide KL) ?_
      rintro r w1 ⟨rfl, rfl⟩
      go_wp2_with fail
      go_quiet ((go_at_call 48; exact Calls.quiet_of_same (unhide HE _)))
      have HB := hide (Go.Joins.below_draws w.heap.size w nq)
      go_wp2_with fail
      go_ret2
      exact ⟨rfl, unhide HB⟩
    · have hv : atE cs i j = .tuple #[.int .i64 0, .int .i64 1] := by unfold atE; rw [if_neg (fun x => hj0 x.2.2)]
      rw [hv]
      rw [show decide (0 ≤ i ∧ i < ((sts cs).length : Int)) = true by simp; omega] at KL
      have hj1 : j < 0 := by omega
      clear hv h e1 e2 q0 q1 hi
      go_enter Tryd.func18, Tryd.ntmps18
      go_wp2_with fail
      refine Calls.mono (unhide KM) ?_
      rintro r w1 ⟨rfl, rfl⟩
      go_wp2_with fail
      refine Calls.mono (unhide KL) ?_
      rintro r w1 ⟨rfl, rfl⟩
      go_wp2_with fail
      go_ret2
      exact ⟨rfl, Below.refl _ _⟩
  · have hv : atE cs i j = .tuple #[.int .i64 0, .int .i64 1] := by unfold atE; rw [if_neg (fun x => hi ⟨x.1, x.2.1⟩)]
    rw [hv]
    rw [show decide (0 ≤ i ∧ i < ((sts cs).length : Int)) = false by simp; omega] at KL
    clear hv h e1 e2 q0 q1 hi
    go_enter Tryd.func18, Tryd.ntmps18
    go_wp2_with fail
    refine Calls.mono (unhide KM) ?_
    rintro r w1 ⟨rfl, rfl⟩
    go_wp2_with fail
    refine Calls.mono (unhide KL) ?_
    rintro r w1 ⟨rfl, rfl⟩
    go_wp2_with fail
    go_ret2
    exact ⟨rfl, Below.refl _ _⟩
end Go.Proofs.YtdnbhomjfgpcfaaDoor

namespace Go.Proofs.YtdnbhomjfgpcfaaDoor
set_option linter.unusedVariables false
set_option linter.unusedSimpArgs false
open Go.ChangeShapes Go.WideShapes Go.ChangeAt Go.RowKit Go.Joins Go.Deep

shelf_lay SlLaysO.n14 Slso 14 at Tryd as Tryd.layso14
theorem fSearch : Tryd.layso14_ren.f 14 = 50 := by kernel_rfl
theorem stF_sorted : ∀ (a : List (List UInt8)) (i : Nat), (stF i a).Pairwise (· < ·)
  | [], i => by simp [stF]
  | c :: q, i => by
    have ih := stF_sorted q (i + 1)
    rw [stF]
    split
    · refine List.Pairwise.cons (fun n hn => ?_) ih
      have := (stF_ge q (i + 1) n hn).1
      omega
    · exact ih
theorem sts_sorted (cs : List (List UInt8)) : (sts cs).Pairwise (· < ·) := List.Pairwise.cons (fun n hn => by have := (stF_ge cs 0 n hn).1; omega) (stF_sorted cs 0)
theorem sts_mono (cs : List (List UInt8)) {a b : Nat} (h : a ≤ b) (hb : b < (sts cs).length) : (sts cs).getD a 0 ≤ (sts cs).getD b 0 := by
  have ha : a < (sts cs).length := by omega
  rw [List.getD_eq_getElem?_getD, List.getD_eq_getElem?_getD, List.getElem?_eq_getElem ha, List.getElem?_eq_getElem hb]
  simp only [Option.getD_some]
  rcases Nat.lt_or_ge a b with h1 | h1
  · exact Nat.le_of_lt (List.pairwise_iff_getElem.1 (sts_sorted cs) a b ha hb h1)
  · obtain rfl : a = b := by omega
    exact Nat.le_refl _
/-- the line of a place -/
def lineOf (cs : List (List UInt8)) (p : Nat) : Nat := (sts cs).countP (fun y => decide (y ≤ p)) - 1
theorem line_pos (cs : List (List UInt8)) (p : Nat) : 1 ≤ (sts cs).countP (fun y => decide (y ≤ p)) ∧ (sts cs).countP (fun y => decide (y ≤ p)) ≤ (sts cs).length := by
  refine ⟨?_, List.countP_le_length⟩
  unfold sts
  rw [List.countP_cons]
  simp
theorem line_lt (cs : List (List UInt8)) (p : Nat) : lineOf cs p < (sts cs).length := by
  have := line_pos cs p
  unfold lineOf
  omega
def dA (cs : List (List UInt8)) : Array Int := ((sts cs).map (fun (n : Nat) => (n : Int))).toArray
theorem dA_at (cs : List (List UInt8)) (i : Nat) (h : i < (sts cs).length) : (dA cs)[i]! = (((sts cs).getD i 0 : Nat) : Int) := by
  have h1 : (dA cs)[i]? = some (((sts cs)[i]'h : Nat) : Int) := by simp [dA, h]
  rw [getElem!_def, h1, List.getD_eq_getElem?_getD, List.getElem?_eq_getElem h]
  rfl
theorem search_ok {w : World} {B g : Nat} {vr vs : Value} {cs : List (List UInt8)} (h : Ix w B g vr vs cs) (p : Nat) (hl : cs.length ≤ 1099511627776) : Calls Tryd.prog 50 #[vs, .int .i64 ((p : Int) + 1)] w fun r w' => r = .returned (.int .i64 ((lineOf cs p : Int) + 1)) ∧ Below w.heap.size w w' := by
  obtain ⟨gs, c2, e3, _, _, _, _⟩ := own_rd h.s (u := .int .i64 0) (i := 0) (by simp [nsv, sts])
  have hs := h.s
  rw [e3] at hs ⊢
  have hsl := sts_len cs
  have hsz : (dA cs).size = (sts cs).length := by simp [dA]
  have hblk : gs < w.heap.size := (hs.lt gs rfl).2
  have K := Any.sort_SearchInts Tryd.layso14 gs 0 c2 (dA cs) ((p : Int) + 1) w (fun i hi => by
    rw [hsz] at hi
    rw [dA_at cs i hi, Nat.zero_add]
    have := World.ownsRow.cells hs (g := gs) rfl i (.int .i64 (((sts cs).getD i 0 : Nat) : Int)) (by rw [List.getD_eq_getElem?_getD]; simp [nsv, hi])
    simpa [Addr.add_lit] using this) hblk (by rw [hsz]; omega) (fun a b hab hb hx => by
    rw [hsz] at hb
    rw [dA_at cs a (by omega)] at hx
    rw [dA_at cs b hb]
    have := sts_mono cs hab hb
    simp only [decide_eq_true_eq] at hx ⊢
    omega)
  rw [fSearch, hsz] at K
  refine Calls.mono K ?_
  rintro r w' ⟨rfl, hb⟩
  refine ⟨?_, hb⟩
  have e : (dA cs).toList.countP (fun y => !decide ((p : Int) + 1 ≤ y)) = lineOf cs p + 1 := by
    have h1 := line_pos cs p
    unfold lineOf
    rw [show (sts cs).countP (fun y => decide (y ≤ p)) - 1 + 1 = (sts cs).countP (fun y => decide (y ≤ p)) by omega]
    unfold dA
    rw [List.countP_map]
    refine List.countP_congr (fun x _ => ?_)
    simp
    omega
  rw [e]
  simp
def whereE (cs : List (List UInt8)) (p : Int) : Value := if 0 ≤ p ∧ p ≤ (cs.length : Int) then .tuple #[.int .i64 (lineOf cs p.toNat : Int), .int .i64 (p - (((sts cs).getD (lineOf cs p.toNat) 0 : Nat) : Int)), .int .i64 0] else .tuple #[.int .i64 0, .int .i64 0, .int .i64 1]
set_option maxRecDepth 100000 in
set_option maxHeartbeats 4000000 in
theorem where_ok {w : World} {B g : Nat} {vr vs : Value} {cs : List (List UInt8)} (h : Ix w B g vr vs cs) (p : Int) (hl : cs.length ≤ 1099511627776) : Calls Tryd.prog 20 #[.pointer (some ⟨g, 0, none⟩), .int .i64 p] w fun r w' => r = .returned (whereE cs p) ∧ Below w.heap.size w w' := by
  obtain ⟨ar, cr, as_, c_, e1, e2, q0, q1⟩ := h.two
  have KM := hide (made_ok g w as_ _ c_ q1 (sts_pos cs))
  by_cases h0 : 0 ≤ p
  · by_cases h1 : p ≤ (cs.length : Int)
    · obtain ⟨k, rfl⟩ : ∃ k : Nat, p = (k : Int) := ⟨p.toNat, by omega⟩
      have hv : whereE cs (k : Int) = .tuple #[.int .i64 (lineOf cs k : Int), .int .i64 ((k : Int) - (((sts cs).getD (lineOf cs k) 0 : Nat) : Int)), .int .i64 0] := by
        unfold whereE
        rw [if_pos ⟨h0, h1⟩, Int.toNat_natCast]
      rw [hv]
      have KS := hide (search_ok h k hl)
      rw [e2] at KS
      have hll := line_lt cs k
      obtain ⟨f, hf⟩ : ∃ f, (sts cs)[lineOf cs k]? = some f := ⟨_, List.getElem?_eq_getElem hll⟩
      have hfl := sts_le (List.mem_of_getElem? hf)
      rw [List.getD_eq_getElem?_getD, hf]
      simp only [Option.getD_some]
      have hsl := sts_len cs
      obtain ⟨j, hj⟩ : ∃ j, lineOf cs k = j := ⟨_, rfl⟩
      rw [hj] at KS hll hf ⊢
      obtain ⟨m, hm⟩ : ∃ z, (sts cs).length = z := ⟨_, rfl⟩
      obtain ⟨n, hn⟩ : ∃ z, cs.length = z := ⟨_, rfl⟩
      have HIX := hide h
      have HF := hide hf
      have HE2 := hide e2
      rw [hm] at q1 hll KS hsl HE2
      rw [hn] at q0 h1 hfl hl hsl
      have HM := hide hm
      have hle : ¬ (n : Int) < (k : Int) := by omega
      have k0 : ¬ (k : Int) < 0 := by omega
      have hjm : (j : Int) < (m : Int) := by omega
      have j0 : (0 : Int) ≤ (j : Int) := by omega
      clear hv h e1 e2 hf hm hn hj h0 h1
      go_enter Tryd.func20, Tryd.ntmps20
      go_wp2_with fail
      refine Calls.mono (unhide KM) ?_
      rintro r w1 ⟨rfl, rfl⟩
      go_wp2_with fail
      refine Calls.mono (unhide KS) ?_
      rintro r w2 ⟨rfl, b2⟩
      have hI2 := (unhide HIX).call b2
      have HB := hide b2
      have q1' := hI2.row.cell 1
      simp only [List.getElem?_cons_zero, List.getElem?_cons_succ] at q1'
      rw [unhide HE2] at q1'
      obtain ⟨gs, c2, e3, hc, _, hcc, _⟩ := own_rd hI2.s (u := .int .i64 (f : Int)) (i := j) (by simp [nsv, unhide HF])
      rw [unhide HE2] at e3
      injection e3 with e3 _ e4
      subst e3 e4
      clear b2 hI2 q0 q1 KS
      go_wp2_with fail
      go_quiet (fail)
      have HB2 := hide ((unhide HB).trans ((Go.Joins.below_draws _ _ nq).mono (unhide HB).size))
      go_wp2_with fail
      go_ret3
      exact ⟨rfl, unhide HB2⟩
    · have hv : whereE cs p = .tuple #[.int .i64 0, .int .i64 0, .int .i64 1] := by unfold whereE; rw [if_neg (fun x => h1 x.2)]
      rw [hv]
      obtain ⟨n, hn⟩ : ∃ z, cs.length = z := ⟨_, rfl⟩
      rw [hn] at q0 h1
      have hlt : (n : Int) < p := by omega
      have p0 : ¬ p < 0 := by omega
      clear hv h e1 e2 q1 hn h0 h1
      go_enter Tryd.func20, Tryd.ntmps20
      go_wp2_with fail
      refine Calls.mono (unhide KM) ?_
      rintro r w1 ⟨rfl, rfl⟩
      go_wp2_with fail
      go_ret3
      exact ⟨rfl, Below.refl _ _⟩
  · have hv : whereE cs p = .tuple #[.int .i64 0, .int .i64 0, .int .i64 1] := by unfold whereE; rw [if_neg (fun x => h0 x.1)]
    rw [hv]
    have p0 : p < 0 := by omega
    clear hv h e1 e2 q0 q1 h0
    go_enter Tryd.func20, Tryd.ntmps20
    go_wp2_with fail
    refine Calls.mono (unhide KM) ?_
    rintro r w1 ⟨rfl, rfl⟩
    go_wp2_with fail
    go_ret3
    exact ⟨rfl, Below.refl _ _⟩
end Go.Proofs.YtdnbhomjfgpcfaaDoor

namespace Go.Proofs.YtdnbhomjfgpcfaaDoor
set_option linter.unusedVariables false
set_option linter.unusedSimpArgs false
open Go.ChangeShapes Go.WideShapes Go.ChangeAt Go.RowKit Go.Joins Go.Deep

theorem enc_eq (r : Int) : Utf8.encode r = ⟨(Lib.encodeRune r).toArray⟩ := by
  unfold Utf8.encode Utf8.valid Lib.encodeRune
  by_cases h1 : r < 0
  · rw [Lib.encodeRuneZ_bad (.inl h1)]
    have : ((decide (0 ≤ r) && decide (r < 55296)) || (decide (57344 ≤ r) && decide (r ≤ 1114111))) = false := by
      simp only [Bool.or_eq_false_iff, Bool.and_eq_false_iff, decide_eq_false_iff_not]; omega
    simp only [this, Bool.false_eq_true, ↓reduceIte, Utf8.runeError]
    rfl
  · by_cases h2 : 1114111 < r
    · rw [Lib.encodeRuneZ_bad (.inr (.inr h2))]
      have : ((decide (0 ≤ r) && decide (r < 55296)) || (decide (57344 ≤ r) && decide (r ≤ 1114111))) = false := by
        simp only [Bool.or_eq_false_iff, Bool.and_eq_false_iff, decide_eq_false_iff_not]; omega
      simp only [this, Bool.false_eq_true, ↓reduceIte, Utf8.runeError]
      rfl
    · by_cases h3 : 55296 ≤ r ∧ r ≤ 57343
      · rw [Lib.encodeRuneZ_bad (.inr (.inl h3))]
        have : ((decide (0 ≤ r) && decide (r < 55296)) || (decide (57344 ≤ r) && decide (r ≤ 1114111))) = false := by
          simp only [Bool.or_eq_false_iff, Bool.and_eq_false_iff, decide_eq_false_iff_not]; omega
        simp only [this, Bool.false_eq_true, ↓reduceIte, Utf8.runeError]
        rfl
      · have : ((decide (0 ≤ r) && decide (r < 55296)) || (decide (57344 ≤ r) && decide (r ≤ 1114111))) = true := by
          simp only [Bool.or_eq_true, Bool.and_eq_true, decide_eq_true_eq]; omega
        simp only [this, if_true]
        obtain ⟨n, rfl⟩ : ∃ n : Nat, r = n := ⟨r.toNat, by omega⟩
        simp only [Int.toNat_natCast]
        by_cases k1 : n < 128
        · rw [Lib.encodeRuneZ_one (by omega) (by omega), if_pos k1]
          rfl
        · rw [if_neg k1]
          by_cases k2 : n < 2048
          · rw [Lib.encodeRuneZ_two (by omega) (by omega), if_pos k2]
            congr 1
          · rw [if_neg k2]
            by_cases k3 : n < 65536
            · rw [Lib.encodeRuneZ_three (by omega), if_pos k3]
              congr 1
            · rw [if_neg k3, Lib.encodeRuneZ_four (by omega) (by omega)]
              congr 1
theorem enc_cp {c : List UInt8} (h : Cp c) : Utf8.encode ((Lib.decodeL c).1 : Int) = ⟨c.toArray⟩ := by
  rw [enc_eq, Lib.encode_decode c h.ne h.ok, h.all, List.take_of_length_le (Nat.le_refl _)]
def tb (c : List (List UInt8)) : ByteArray := ⟨c.flatten.toArray⟩
def rni (cs : List (List UInt8)) : List Int := cs.map (fun c => (rn c : Int))
theorem bytes_fold : ∀ (cs : List (List UInt8)) (s : ByteArray), Cps cs → (rni cs).foldl (fun r n => r ++ Utf8.encode n) s = s ++ tb cs
  | [], s, h => by
    simp only [rni, tb, List.map_nil, List.foldl_nil, List.flatten_nil]
    exact ByteArray.ext (by simp)
  | c :: q, s, h => by
    have ih := bytes_fold q (s ++ Utf8.encode (rn c : Int)) h.tail
    simp only [rni, List.map_cons, List.foldl_cons] at ih ⊢
    rw [ih]
    have e : Utf8.encode (rn c : Int) = ⟨c.toArray⟩ := enc_cp h.head
    rw [e]
    refine ByteArray.ext (Array.toList_inj.1 ?_)
    simp [tb]
theorem runes_bytes {cs : List (List UInt8)} (h : Cps cs) : runesBytes (rni cs) = tb cs := by
  unfold runesBytes
  rw [bytes_fold cs _ h]
  refine ByteArray.ext (Array.toList_inj.1 ?_)
  simp [tb]
theorem Tx.tb {s : ByteArray} {c : List (List UInt8)} (h : Tx s c) : s = tb c := h.bytes
theorem tx_tb {c : List (List UInt8)} (h : Cps c) : Tx (tb c) c := ⟨h, by simp [tb]⟩
theorem st_end (cs : List (List UInt8)) {i : Nat} (hi : i < (sts cs).length) : (sts cs).getD i 0 ≤ endL cs i := by
  unfold endL
  have h0 : (sts cs)[i]? = some ((sts cs)[i]'hi) := List.getElem?_eq_getElem hi
  split
  · rename_i h
    have h1 : (sts cs)[i + 1]? = some ((sts cs)[i + 1]'h) := List.getElem?_eq_getElem h
    rw [List.getD_eq_getElem?_getD, List.getD_eq_getElem?_getD, h0, h1]
    have := List.pairwise_iff_getElem.1 (sts_sorted cs) i (i + 1) hi h (by omega)
    simp
    omega
  · rw [List.getD_eq_getElem?_getD, h0]
    exact sts_le (List.getElem_mem hi)
/-- what stands from a place to another one -/
def sub (cs : List (List UInt8)) (f e : Nat) : List (List UInt8) := (cs.drop f).take (e - f)
theorem conv_sub {w : World} {B gr n cr : Nat} {cs : List (List UInt8)} (h : w.ownsRow B 21 1 (.slice (some ⟨gr, 0, none⟩) n cr) n (rnv cs)) (hn : cs.length = n) (hcs : Cps cs) {f e : Nat} (hf : f ≤ e) (he : e ≤ n) (a1 : Option Addr) (ha : (if cr = f then some (⟨gr, 0, none⟩ : Addr) else some ⟨gr, f, none⟩) = a1) (c : Nat) :
    (convert 40 9 (.slice a1 (e - f) c)).run Tryd.prog w = .ok (.string (tb (sub cs f e))) w := by
  obtain ⟨_, hcap⟩ : True ∧ n ≤ cr := by
    rcases h.2 with ⟨e1, _⟩ | ⟨g, cap, cur, e1, _, _, h3, _⟩
    · injection e1 with e1; cases e1
    · injection e1 with _ _ e3; subst e3; exact ⟨trivial, h3⟩
  have hsl : (sub cs f e).length = e - f := by unfold sub; rw [List.length_take, List.length_drop]; omega
  have hzs : (rni (sub cs f e)).length = e - f := by simp [rni, hsl]
  by_cases hcf : cr = f
  · rw [if_pos hcf] at ha
    subst ha
    have h0 : e - f = 0 := by omega
    have hnil : sub cs f e = [] := List.eq_nil_of_length_eq_zero (by rw [hsl, h0])
    have k := run_convert_runes (P := Tryd.prog) w 40 9 21 ⟨gr, 0, none⟩ (e - f) c [] (by simp; omega) Tryd.underlying40 Tryd.underlying21 Tryd.underlying9 (fun j hj => by simp at hj)
    rw [k, hnil]
    simp [runesBytes, tb]
    rfl
  · rw [if_neg hcf] at ha
    subst ha
    have k := run_convert_runes (P := Tryd.prog) w 40 9 21 ⟨gr, f, none⟩ (e - f) c (rni (sub cs f e)) (by rw [hzs]; exact Nat.le_refl _) Tryd.underlying40 Tryd.underlying21 Tryd.underlying9 (fun j hj => by
      rw [hzs] at hj
      have hj2 : f + j < cs.length := by omega
      have hc : cs[f + j]? = some (cs[f + j]'hj2) := List.getElem?_eq_getElem hj2
      have hr := World.ownsRow.cells h (g := gr) rfl (f + j) (.int .i32 (rn (cs[f + j]'hj2) : Int)) (rnv_at hc)
      have hv : (rni (sub cs f e)).getD j 0 = (rn (cs[f + j]'hj2) : Int) := by
        rw [List.getD_eq_getElem?_getD]
        simp [rni, sub, List.getElem?_take, hj, hc]
      rw [hv]
      simpa [Addr.add_lit, Nat.add_assoc] using hr)
    rw [k, List.take_of_length_le (by rw [hzs]; exact Nat.le_refl _), runes_bytes (by unfold sub; exact (hcs.drop f).take _)]
def lineE (cs : List (List UInt8)) (i : Int) : Value := if 0 ≤ i ∧ i < ((sts cs).length : Int) then .tuple #[.string (tb (sub cs ((sts cs).getD i.toNat 0) (endL cs i.toNat))), .int .i64 0] else .tuple #[.string ⟨#[]⟩, .int .i64 1]
set_option maxRecDepth 100000 in
set_option maxHeartbeats 4000000 in
theorem line_ok {w : World} {B g : Nat} {vr vs : Value} {cs : List (List UInt8)} (h : Ix w B g vr vs cs) (hcs : Cps cs) (i : Int) (hl : cs.length ≤ 1099511627776) (hsome : ∃ gr cr, vr = .slice (some ⟨gr, 0, none⟩) cs.length cr) : Calls Tryd.prog 16 #[.pointer (some ⟨g, 0, none⟩), .int .i64 i] w fun r w' => r = .returned (lineE cs i) ∧ Below w.heap.size w w' := by
  obtain ⟨ar, cr, as_, c_, e1, e2, q0, q1⟩ := h.two
  obtain ⟨gr, cr2, e5⟩ := hsome
  rw [e5] at e1
  injection e1 with e1 _ e7
  subst e1 e7
  have KM := hide (made_ok g w as_ _ c_ q1 (sts_pos cs))
  have KL := hide (isLine_ok g i w as_ _ c_ q1)
  by_cases hi : 0 ≤ i ∧ i < ((sts cs).length : Int)
  · obtain ⟨k, rfl⟩ : ∃ k : Nat, i = (k : Int) := ⟨i.toNat, by omega⟩
    have hk : k < (sts cs).length := by omega
    obtain ⟨f, hf⟩ : ∃ f, (sts cs)[k]? = some f := ⟨_, List.getElem?_eq_getElem hk⟩
    have hfl := sts_le (List.mem_of_getElem? hf)
    have hel := end_le cs k
    have hfe := st_end cs hk
    rw [List.getD_eq_getElem?_getD, hf] at hfe
    simp only [Option.getD_some] at hfe
    have HE := hide (fun q : Nat => (end_ok (h.call (Go.Joins.below_draws w.heap.size w q)) hk hl).mono (fun _ _ x => And.intro x.1 x.2.symm))
    obtain ⟨gs, c2, e3, hc, _, hcc, _⟩ := own_rd h.s (u := .int .i64 (f : Int)) (i := k) (by simp [nsv, hf])
    rw [e2] at e3
    injection e3 with e3 _ e4
    subst e3 e4
    have hv : lineE cs (k : Int) = .tuple #[.string (tb (sub cs f (endL cs k))), .int .i64 0] := by
      unfold lineE
      rw [if_pos hi, Int.toNat_natCast, List.getD_eq_getElem?_getD, hf]
      rfl
    rw [hv]
    rw [show decide (0 ≤ (k : Int) ∧ (k : Int) < ((sts cs).length : Int)) = true by simp; omega] at KL
    obtain ⟨e, he⟩ : ∃ e, endL cs k = e := ⟨_, rfl⟩
    rw [he] at HE hel hfe ⊢
    obtain ⟨m, hm⟩ : ∃ z, (sts cs).length = z := ⟨_, rfl⟩
    obtain ⟨n, hn⟩ : ∃ z, cs.length = z := ⟨_, rfl⟩
    have hr := h.r
    rw [e5] at hr
    rw [hm] at q1 hk hcc hi
    rw [hn] at q0 hel hfl hl hr
    have hncr : n ≤ cr2 := by
      rcases hr.2 with ⟨e9, _⟩ | ⟨g9, cap, cur, e9, _, _, h3, _⟩
      · injection e9 with e9; cases e9
      · injection e9 with _ _ e3; subst e3; exact h3
    obtain ⟨a1, ha1⟩ : ∃ a1, (if cr2 = f then some (⟨gr, 0, none⟩ : Addr) else some ⟨gr, f, none⟩) = a1 := ⟨_, rfl⟩
    obtain ⟨S, hS⟩ : ∃ S, tb (sub cs f e) = S := ⟨_, rfl⟩
    have hcv : ∀ q c, (convert 40 9 (.slice a1 (e - f) c)).run Tryd.prog (w.drewN q) = .ok (.string S) (w.drewN q) := fun q c => by rw [← hS]; exact conv_sub (own_call hr (Go.Joins.below_draws w.heap.size w q)) hn hcs hfe hel a1 ha1 c
    rw [hS]
    have hlt : (k : Int) < (m : Int) := by omega
    have i0 : (0 : Int) ≤ (k : Int) := by omega
    have f0 : (0 : Int) ≤ (f : Int) := by omega
    have fe : (f : Int) ≤ (e : Int) := by omega
    have ec : (e : Int) ≤ (cr2 : Int) := by omega
    clear hv h e2 hf hi hm he hr hn hS
    go_enter Tryd.func16, Tryd.ntmps16
    go_wp2_with fail
    refine Calls.mono (unhide KM) ?_
    rintro r w1 ⟨rfl, rfl⟩
    go_wp2_with fail
    refine Calls.mono (unhide KL) ?_
    rintro r w1 ⟨rfl, rfl⟩
    go_wp2_with fail
    go_quiet ((go_at_call 48; exact Calls.quiet_of_same (unhide HE _)))
    have HB := hide (Go.Joins.below_draws w.heap.size w nq)
    go_wp2_with fail
    go_ret2
    exact ⟨rfl, unhide HB⟩
  · have hv : lineE cs i = .tuple #[.string ⟨#[]⟩, .int .i64 1] := by unfold lineE; rw [if_neg hi]
    rw [hv]
    rw [show decide (0 ≤ i ∧ i < ((sts cs).length : Int)) = false by simp; omega] at KL
    clear hv h e2 q0 q1 hi
    go_enter Tryd.func16, Tryd.ntmps16
    go_wp2_with fail
    refine Calls.mono (unhide KM) ?_
    rintro r w1 ⟨rfl, rfl⟩
    go_wp2_with fail
    refine Calls.mono (unhide KL) ?_
    rintro r w1 ⟨rfl, rfl⟩
    go_wp2_with fail
    go_ret2
    exact ⟨rfl, Below.refl _ _⟩
end Go.Proofs.YtdnbhomjfgpcfaaDoor

namespace Go.Proofs.YtdnbhomjfgpcfaaDoor
set_option linter.unusedVariables false
set_option linter.unusedSimpArgs false
open Go.ChangeShapes Go.WideShapes Go.ChangeAt Go.RowKit Go.Joins Go.Deep

/-- so much of a pattern stands last, and no more that is less than all -/
def Mq (P X : List Int) (n : Nat) : Prop := n < P.length ∧ P.take n <:+ X ∧ ∀ k, k < P.length → P.take k <:+ X → k ≤ n
/-- the longest lesser beginning with which a beginning ends -/
def Bd (P : List Int) (q b : Nat) : Prop := b < q ∧ P.take b <:+ P.take q ∧ ∀ k, k < q → P.take k <:+ P.take q → k ≤ b
def gw (P : List Int) (bk : List Nat) (r : Int) : Nat → Nat → Nat
  | 0, n => n
  | f + 1, n => if P.getD n 0 = r then n + 1 else if n = 0 then 0 else gw P bk r f (bk.getD n 0)
theorem take_next {P : List Int} {n : Nat} (h : n < P.length) : P.take (n + 1) = P.take n ++ [P.getD n 0] := by
  rw [List.take_add_one, List.getD_eq_getElem?_getD, List.getElem?_eq_getElem h]
  rfl
theorem suf_snoc {a b : List Int} {x y : Int} : a ++ [x] <:+ b ++ [y] ↔ a <:+ b ∧ x = y := by
  constructor
  · rintro ⟨t, ht⟩
    rw [← List.append_assoc] at ht
    have h := List.append_inj' ht rfl
    exact ⟨⟨t, h.1⟩, by simpa using h.2⟩
  · rintro ⟨⟨t, ht⟩, rfl⟩
    exact ⟨t, by rw [← List.append_assoc, ht]⟩
theorem gw_spec {P : List Int} {bk : List Nat} {r : Int} : ∀ (f n : Nat) (X : List Int), n < f → n < P.length → P.take n <:+ X → (∀ k, k < P.length → P.take k <:+ X → P.getD k 0 = r → k ≤ n) → (∀ q, 0 < q → q ≤ n → Bd P q (bk.getD q 0)) →
    gw P bk r f n ≤ n + 1 ∧ P.take (gw P bk r f n) <:+ X ++ [r] ∧ ∀ k, k ≤ P.length → P.take k <:+ X ++ [r] → k ≤ gw P bk r f n
  | 0, n, X, hf, _, _, _, _ => by omega
  | f + 1, n, X, hf, hn, hs, hm, hb => by
    rw [gw]
    by_cases h1 : P.getD n 0 = r
    · rw [if_pos h1]
      refine ⟨by omega, ?_, fun k hk hks => ?_⟩
      · rw [take_next hn, h1]
        exact suf_snoc.2 ⟨hs, rfl⟩
      · cases k with
        | zero => omega
        | succ k =>
          rw [take_next (by omega)] at hks
          have h2 := suf_snoc.1 hks
          have := hm k (by omega) h2.1 h2.2
          omega
    · rw [if_neg h1]
      by_cases h0 : n = 0
      · rw [if_pos h0]
        refine ⟨by omega, by simp, fun k hk hks => ?_⟩
        cases k with
        | zero => omega
        | succ k =>
          exfalso
          rw [take_next (by omega)] at hks
          have h2 := suf_snoc.1 hks
          have h3 := hm k (by omega) h2.1 h2.2
          obtain rfl : k = n := by omega
          exact h1 h2.2
      · rw [if_neg h0]
        have hbn := hb n (by omega) (Nat.le_refl _)
        have ih := gw_spec f (bk.getD n 0) X (by have := hbn.1; omega) (by have := hbn.1; omega) (hbn.2.1.trans hs) (fun k hk hks hkr => by
          have h3 := hm k hk hks hkr
          have hne : k ≠ n := fun e => h1 (by rw [← e]; exact hkr)
          refine hbn.2.2 k (by omega) (List.suffix_of_suffix_length_le hks hs ?_)
          rw [List.length_take, List.length_take]
          omega) (fun q hq hq2 => hb q hq (by have := hbn.1; omega))
        exact ⟨by have := ih.1; have := hbn.1; omega, ih.2⟩
theorem Mq.grow {P : List Int} {bk : List Nat} {r : Int} {n : Nat} {X : List Int} (h : Mq P X n) (hb : ∀ q, 0 < q → q ≤ n → Bd P q (bk.getD q 0)) :
    gw P bk r (n + 1) n ≤ n + 1 ∧ P.take (gw P bk r (n + 1) n) <:+ X ++ [r] ∧ ∀ k, k ≤ P.length → P.take k <:+ X ++ [r] → k ≤ gw P bk r (n + 1) n :=
  gw_spec (n + 1) n X (by omega) h.1 h.2.1 (fun k hk hks _ => h.2.2 k hk hks) hb
def riv (P : List Int) : List Value := P.map (fun x => .int .i32 x)
set_option maxRecDepth 100000 in
set_option maxHeartbeats 4000000 in
theorem grow_any (B B' m : Nat) (vp vb : Value) (P : List Int) (bk : List Nat) (n : Nat) (r : Int) (w : World) (hp : w.ownsRow B 21 1 vp m (riv P)) (hb : w.ownsRow B' 3 1 vb (m + 1) (nsv bk)) (hn : n < m) (hm : m ≤ 1099511627776) (hbd : ∀ q, 0 < q → q ≤ n → bk.getD q 0 < q) :
    Calls Tryd.prog 76 #[vp, vb, .int .i64 (n : Int), .int .i32 r] w fun r' w' => r' = .returned (.int .i64 (gw P bk r (n + 1) n : Int)) ∧ w = w' := by
  obtain ⟨ap, cp, rfl, hpc, hpm⟩ := own_sl hp
  obtain ⟨ab, cb, rfl, hbc, hbm⟩ := own_sl hb
  have hPl : P.length = m := by have := hp.1; simpa [riv] using this
  have hBl : bk.length = m + 1 := by have := hb.1; simpa [nsv] using this
  have HP := hide hp
  have HB := hide hb
  have HPL := hide hPl
  have HBL := hide hBl
  have HBD := hide hbd
  obtain ⟨G, hG⟩ : ∃ G, gw P bk r (n + 1) n = G := ⟨_, rfl⟩
  have HG := hide hG
  have hmI : (m : Int) ≤ 1099511627776 := by omega
  rw [hG]
  clear hp hb hPl hBl hbd hG
  go_enter Tryd.func76, Tryd.ntmps76
  go_wp2_with fail
  go_loopw [2] (fun v wr => ∃ (k f : Nat), k ≤ n ∧ v = .int .i64 (k : Int) ∧ Hid (k < f ∧ gw P bk r f k = G) ∧ w = wr) (fun v _ => (intOf v).toNat)
  case atStart => exact ⟨n, n + 1, by omega, rfl, hide ⟨by omega, unhide HG⟩, rfl⟩
  case round =>
    clear HG
    obtain ⟨k, f, hk, rfl, HK, rfl⟩ := hrel
    have hkm : k < m := by omega
    obtain ⟨x, hx⟩ : ∃ x, P[k]? = some x := ⟨_, List.getElem?_eq_getElem (by rw [unhide HPL]; exact hkm)⟩
    obtain ⟨gp, c1, e1, hc1, _, _, _⟩ := own_rd (unhide HP) (i := k) (u := .int .i32 x) (by simp [riv, hx])
    injection e1 with e1 _ e2
    subst e1 e2
    obtain ⟨y, hy⟩ : ∃ y, bk[k]? = some y := ⟨_, List.getElem?_eq_getElem (by rw [unhide HBL]; omega)⟩
    obtain ⟨gb, c2, e3, hc2, _, _, _⟩ := own_rd (unhide HB) (i := k) (u := .int .i64 (y : Int)) (by simp [nsv, hy])
    injection e3 with e3 _ e4
    subst e3 e4
    have hxd : P.getD k 0 = x := by rw [List.getD_eq_getElem?_getD, hx]; rfl
    have hyd : bk.getD k 0 = y := by rw [List.getD_eq_getElem?_getD, hy]; rfl
    have HXD := hide hxd
    have HYD := hide hyd
    have k0 : (0 : Int) ≤ (k : Int) := by omega
    have kmI : (k : Int) < (m : Int) := by omega
    have kmI2 : (k : Int) < (m : Int) + 1 := by omega
    clear hx hy hxd hyd
    obtain ⟨f', rfl⟩ : ∃ f', f = f' + 1 := ⟨f - 1, by have := (unhide HK).1; omega⟩
    by_cases hz : k = 0
    · subst hz
      by_cases hr : x = r
      · have hr1 : (x == r) = true := by simp [hr]
        have hGv : G = 1 := by have h := (unhide HK).2; rw [gw, unhide HXD, if_pos hr] at h; exact h.symm
        clear hr
        go_wp2_with fail
        go_ret
        exact ⟨by first | rfl | simp, rfl⟩
      · have hr1 : (x == r) = false := by simp [hr]
        have hGv : G = 0 := by have h := (unhide HK).2; rw [gw, unhide HXD, if_neg hr, if_pos rfl] at h; exact h.symm
        clear hr
        go_wp2_with fail
        go_ret
        exact ⟨by first | rfl | simp, rfl⟩
    · have hz1 : (0 : Int) < (k : Int) := by omega
      by_cases hr : x = r
      · have hr1 : (x == r) = true := by simp [hr]
        have hr2 : (x != r) = false := by simp [hr]
        have hGv : G = k + 1 := by have h := (unhide HK).2; rw [gw, unhide HXD, if_pos hr] at h; exact h.symm
        clear hr
        go_wp2_with fail
        go_ret
        exact ⟨by first | rfl | simp, rfl⟩
      · have hr1 : (x == r) = false := by simp [hr]
        have hr2 : (x != r) = true := by simp [hr]
        have hyk : y < k := by have := unhide HBD k (by omega) hk; rw [unhide HYD] at this; exact this
        have HK2 : Hid (y < f' ∧ gw P bk r f' y = G) := hide (by have h := (unhide HK).2; rw [gw, unhide HXD, if_neg hr, if_neg hz, unhide HYD] at h; exact ⟨by have := (unhide HK).1; omega, h⟩)
        clear hr
        go_wp2_with fail
        exact ⟨⟨y, f', by omega, rfl, HK2, by trivial⟩, by simp [intOf]; omega⟩
end Go.Proofs.YtdnbhomjfgpcfaaDoor

namespace Go.Proofs.YtdnbhomjfgpcfaaDoor
set_option linter.unusedVariables false
set_option linter.unusedSimpArgs false
open Go.ChangeShapes Go.WideShapes Go.ChangeAt Go.RowKit Go.Joins Go.Deep

theorem own_set {w : World} {B e n g c : Nat} {xs : List Value} (h : w.ownsRow B e 1 (.slice (some ⟨g, 0, none⟩) n c) n xs) (i : Nat) (u : Value) (hi : i < n) : (w.setCell ⟨g, i, none⟩ u).ownsRow B e 1 (.slice (some ⟨g, 0, none⟩) n c) n (xs.set i u) := by
  obtain ⟨h1, h2⟩ := h
  refine ⟨by rw [List.length_set]; exact h1, ?_⟩
  rcases h2 with ⟨h2, _⟩ | ⟨g', cap, cur, e1, e2, e3, e4, e5, e6, e7⟩
  · cases h2
  · cases e1
    refine .inr ⟨g, c, cur.setIfInBounds i u, rfl, e2, ?_, e4, e5, by rw [Array.size_setIfInBounds]; exact e6, ?_⟩
    · rw [heap_setCell_same w g i _ e u e3]
    · rw [Array.toList_setIfInBounds, ← e7, Nat.mul_one, List.take_set]
theorem own_fr {w : World} {B e n g c : Nat} {xs : List Value} (h : w.ownsRow B e 1 (.slice (some ⟨g, 0, none⟩) n c) n xs) (i : Nat) : w.frozen? ⟨g, i, none⟩ = false := by
  rcases h.2 with ⟨h2, _⟩ | ⟨g', cap, cur, e1, e2, e3, _⟩
  · cases h2
  · cases e1
    exact frozen_of_row w g i _ e e3
theorem row_cell {w : World} {B e n g c : Nat} {xs : List Value} (h : w.ownsRow B e 1 (.slice (some ⟨g, 0, none⟩) n c) n xs) {i : Nat} {u : Value} (hu : xs[i]? = some u) : w.cell? ⟨g, i, none⟩ = some u := by
  have := World.ownsRow.cells h (g := g) rfl i u hu
  simpa [Addr.add_lit] using this
theorem suf_tail {P : List Int} {k i : Nat} (hk : k ≤ i) (hi : i < P.length) : P.take k <:+ P.take (i + 1) ↔ P.take k <:+ P.tail.take i := by
  cases P with
  | nil => simp at hi
  | cons p q =>
    simp only [List.length_cons] at hi
    rw [List.tail_cons, List.take_succ_cons]
    constructor
    · intro h
      refine List.suffix_of_suffix_length_le h (List.suffix_cons _ _) ?_
      rw [List.length_take, List.length_take, List.length_cons]
      omega
    · intro h
      exact h.trans (List.suffix_cons _ _)
theorem Mq.bd {P : List Int} {i n : Nat} (h : Mq P (P.tail.take i) n) (hi : i < P.length) : n ≤ i ∧ Bd P (i + 1) n := by
  have h1 := h.2.1.length_le
  rw [List.length_take, List.length_take, List.length_tail] at h1
  have h2 := h.1
  have hn : n ≤ i := by omega
  exact ⟨hn, by omega, (suf_tail hn hi).2 h.2.1, fun k hk hks => h.2.2 k (by omega) ((suf_tail (by omega) hi).1 hks)⟩
structure BI (P : List Int) (bk : List Nat) (i n : Nat) : Prop where
  len : bk.length = P.length + 1
  mq : Mq P (P.tail.take i) n
  bd : ∀ q, 0 < q → q ≤ i + 1 → Bd P q (bk.getD q 0)
theorem BI.start {P : List Int} (h : 0 < P.length) : BI P (List.replicate (P.length + 1) 0) 0 0 := by
  have hm : Mq P (P.tail.take 0) 0 := ⟨h, by simp, fun k hk hks => by
    have := hks.length_le
    rw [List.length_take, List.length_take] at this
    omega⟩
  refine ⟨by simp, hm, fun q h1 h2 => ?_⟩
  obtain rfl : q = 1 := by omega
  have : (List.replicate (P.length + 1) 0).getD 1 0 = 0 := by
    rw [List.getD_eq_getElem?_getD, List.getElem?_replicate]
    split <;> rfl
  rw [this]
  exact (hm.bd h).2
theorem BI.next {P : List Int} {bk : List Nat} {i n : Nat} (h : BI P bk i n) (hi : i + 1 < P.length) : BI P (bk.set (i + 2) (gw P bk (P.getD (i + 1) 0) (n + 1) n)) (i + 1) (gw P bk (P.getD (i + 1) 0) (n + 1) n) := by
  have hb := h.mq.bd (by omega)
  have hg := h.mq.grow (r := P.getD (i + 1) 0) (fun q h1 h2 => h.bd q h1 (by omega))
  have hx : P.tail.take (i + 1) = P.tail.take i ++ [P.getD (i + 1) 0] := by
    rw [take_next (by rw [List.length_tail]; omega)]
    congr 2
    rw [List.getD_eq_getElem?_getD, List.getD_eq_getElem?_getD, List.getElem?_tail]
  have hm : Mq P (P.tail.take (i + 1)) (gw P bk (P.getD (i + 1) 0) (n + 1) n) := by
    rw [hx]
    exact ⟨by omega, hg.2.1, fun k hk hks => hg.2.2 k (by omega) hks⟩
  refine ⟨by rw [List.length_set]; exact h.len, hm, fun q h1 h2 => ?_⟩
  by_cases hq : q = i + 2
  · subst hq
    have : (bk.set (i + 2) (gw P bk (P.getD (i + 1) 0) (n + 1) n)).getD (i + 2) 0 = gw P bk (P.getD (i + 1) 0) (n + 1) n := by
      rw [List.getD_eq_getElem?_getD, List.getElem?_set_self (by rw [h.len]; omega)]
      rfl
    rw [this]
    exact (hm.bd (by omega)).2
  · have : (bk.set (i + 2) (gw P bk (P.getD (i + 1) 0) (n + 1) n)).getD q 0 = bk.getD q 0 := by
      rw [List.getD_eq_getElem?_getD, List.getElem?_set_ne (by omega), ← List.getD_eq_getElem?_getD]
    rw [this]
    exact h.bd q h1 (by omega)
theorem nsv_set (l : List Nat) (i n : Nat) : (nsv l).set i (.int .i64 (n : Int)) = nsv (l.set i n) := by simp [nsv, List.map_set]
theorem nsv_rep (n : Nat) : nsv (List.replicate n 0) = List.replicate n (.int .i64 0) := by simp [nsv]
def BorR (P : List Int) (m : Nat) (w : World) (r : Ending) (w' : World) : Prop := ∃ vb bk, r = .returned vb ∧ w'.ownsRow w.heap.size 3 1 vb (m + 1) (nsv bk) ∧ (∀ q, 0 < q → q ≤ m → Bd P q (bk.getD q 0)) ∧ Below w.heap.size w w'
set_option maxRecDepth 100000 in
set_option maxHeartbeats 4000000 in
theorem borders_any (B m : Nat) (vp : Value) (P : List Int) (w : World) (hp : w.ownsRow B 21 1 vp m (riv P)) (h0 : 0 < m) (hm : m ≤ 1099511627776) :
    Calls Tryd.prog 75 #[vp] w fun r w' => BorR P m w r w' := by
  have hPl : P.length = m := by have := hp.1; simpa [riv] using this
  obtain ⟨x0, hx0⟩ : ∃ x, P[0]? = some x := ⟨_, List.getElem?_eq_getElem (by omega)⟩
  obtain ⟨gp, cp, rfl, _, _, hpc, hpm⟩ := own_rd hp (i := 0) (u := .int .i32 x0) (by simp [riv, hx0])
  have HP := hide hp
  have HPL := hide hPl
  have h0I : (0 : Int) < (m : Int) := by omega
  have h1I : (1 : Int) ≤ (m : Int) := by omega
  have hmI : (m : Int) ≤ 1099511627776 := by omega
  obtain ⟨a1, ha1⟩ : ∃ a1, (if cp = 1 then some (⟨gp, 0, none⟩ : Addr) else some ⟨gp, 1, none⟩) = a1 := ⟨_, rfl⟩
  have HA1 := hide ha1
  clear hp hPl hx0
  obtain ⟨w1, hmk, hr1, hg1⟩ := run_make_full (P := Tryd.prog) w w.heap.size 38 3 (Classical.choose info64) (.int .i64 0) 1 Tryd.underlying38 (Classical.choose_spec info64).1 (Classical.choose_spec info64).2.1 (Classical.choose_spec info64).2.2.1 .i64 .i64 (m + 1) (by rw [(Classical.choose_spec info64).2.2.2]; omega) (by unfold maxLen; omega) (Nat.le_refl _)
  have hmk' : (Instr.makeSlice 38 (.int .i64 ((m : Int) + 1)) (.int .i64 ((m : Int) + 1))).run Tryd.prog w = .ok (.slice (some ⟨w.heap.size, 0, none⟩) (m + 1) (m + 1)) w1 := by simpa using hmk
  have hrow : w1.ownsRow w.heap.size 3 1 (.slice (some ⟨w.heap.size, 0, none⟩) (m + 1) (m + 1)) (m + 1) (nsv (List.replicate (m + 1) 0)) := by
    rw [nsv_rep]
    have e : (madeCells (Value.int .i64 0).cells ((m + 1) * 1)).toList = List.replicate (m + 1) (.int .i64 0) := by
      refine List.eq_replicate_iff.2 ⟨by simp [madeCells], fun v hv => ?_⟩
      simp [madeCells, Value.cells, Nat.mod_one] at hv
      first | exact hv.symm | exact hv | (obtain ⟨_, hv⟩ := hv; exact hv.symm) | (obtain ⟨_, hv⟩ := hv; exact hv) | simp_all
    rw [e] at hr1
    exact hr1
  have b1 : Below w.heap.size w w1 := (grown_only hg1).below (Nat.le_refl _) (fun k hk => by cases hk)
  have HR1 := hide hrow
  have B1 := hide b1
  have HP1 := hide (own_call (unhide HP) b1)
  have HST : Hid (BI P (List.replicate (m + 1) 0) 0 0) := hide (by have := BI.start (P := P) (by rw [unhide HPL]; exact h0); rw [unhide HPL] at this; exact this)
  clear hmk hr1 hg1 hrow b1 HP
  obtain ⟨gb, hgb⟩ : ∃ z, w.heap.size = z := ⟨_, rfl⟩
  have HGB := hide hgb
  go_enter Tryd.func75, Tryd.ntmps75
  go_wp2_with fail
  rw [hgb] at HR1
  clear ha1 hmk' hgb
  go_loopw [4, 14] (fun v i wr => ∃ (k n : Nat) (bk : List Nat), k ≤ m - 1 ∧ i = .int .i64 (k : Int) ∧ v = .int .i64 (n : Int) ∧ Hid (BI P bk k n) ∧ Hid (wr.ownsRow gb 3 1 (.slice (some ⟨gb, 0, none⟩) (m + 1) (m + 1)) (m + 1) (nsv bk)) ∧ Hid (wr.ownsRow B 21 1 (.slice (some ⟨gp, 0, none⟩) m cp) m (riv P)) ∧ Hid (Below w.heap.size w wr)) (fun _ i _ => ((m : Int) - intOf i).toNat)
  case atStart => exact ⟨0, 0, _, by omega, by simp, rfl, HST, HR1, HP1, B1⟩
  case round =>
    clear HST HR1 HP1 B1
    obtain ⟨k, n, bk, hk, rfl, rfl, HI, HR, HP, HB⟩ := hrel
    by_cases c1 : k < m - 1
    · have c2 : (k : Int) < ((m - 1 : Nat) : Int) := by omega
      obtain ⟨x, hx⟩ : ∃ x, P[k + 1]? = some x := ⟨_, List.getElem?_eq_getElem (by rw [unhide HPL]; omega)⟩
      have hxd : P.getD (k + 1) 0 = x := by rw [List.getD_eq_getElem?_getD, hx]; rfl
      have haa : a1 = some ⟨gp, 1, none⟩ := by rw [← unhide HA1, if_neg (by omega)]
      subst haa
      have hcell : wr.cell? ⟨gp, 1 + k, none⟩ = some (.int .i32 x) := by
        have := row_cell (unhide HP) (i := k + 1) (u := .int .i32 x) (by simp [riv, hx])
        rw [Nat.add_comm] at this
        exact this
      have hI := unhide HI
      have hnk := (hI.mq.bd (by rw [unhide HPL]; omega)).1
      have KG := hide (grow_any B gb m _ _ P bk n x wr (unhide HP) (unhide HR) (by omega) hm (fun q h1 h2 => (hI.bd q h1 (by omega)).1))
      have HN := hide (hI.next (by rw [unhide HPL]; omega))
      rw [hxd] at HN
      have hbl : bk.length = m + 1 := by have := hI.len; rw [unhide HPL] at this; exact this
      obtain ⟨y, hy⟩ : ∃ y, bk[k + 2]? = some y := ⟨_, List.getElem?_eq_getElem (by rw [hbl]; omega)⟩
      have hcy : wr.cell? ⟨gb, k + 2, none⟩ = some (.int .i64 (y : Int)) := row_cell (unhide HR) (by simp [nsv, hy])
      have hfy : wr.frozen? ⟨gb, k + 2, none⟩ = false := own_fr (unhide HR) _
      obtain ⟨G, hG⟩ : ∃ G, gw P bk x (n + 1) n = G := ⟨_, rfl⟩
      rw [hG] at KG HN
      have ho : Only (· = gb) wr (wr.setCell ⟨gb, k + 2, none⟩ (.int .i64 (G : Int))) := (Only.refl _ _).set gb (k + 2) _ rfl
      have HR2 : Hid ((wr.setCell ⟨gb, k + 2, none⟩ (.int .i64 (G : Int))).ownsRow gb 3 1 (.slice (some ⟨gb, 0, none⟩) (m + 1) (m + 1)) (m + 1) (nsv (bk.set (k + 2) G))) := hide (by have := own_set (unhide HR) (k + 2) (.int .i64 (G : Int)) (by omega); rw [nsv_set] at this; exact this)
      have HP2 := hide (own_only (unhide HP) ho (fun q hq hp => own_ne (unhide HP) (unhide HR) (by decide) q hq (by rw [hp]; rfl)))
      have HB2 := hide ((unhide HB).trans (ho.below (unhide HB).size (fun q hq => by rw [hq, ← unhide HGB]; exact Nat.le_refl _)))
      have k0 : (0 : Int) ≤ (k : Int) := by omega
      have k2 : (k : Int) + 2 < (m : Int) + 1 := by omega
      clear hx hxd hI hy hG ho HR HP HB HI
      go_wp2_with fail
      refine Calls.mono (unhide KG) ?_
      rintro r w3 ⟨rfl, rfl⟩
      go_wp2_with fail
      exact ⟨⟨k + 1, G, _, by omega, by simp, rfl, HN, HR2, HP2, HB2⟩, by simp [intOf]; omega⟩
    · obtain rfl : m = k + 1 := by omega
      have hI := unhide HI
      have HE : Hid (BorR P (k + 1) w (.returned (.slice (some ⟨gb, 0, none⟩) (k + 1 + 1) (k + 1 + 1))) wr) := hide ⟨_, bk, rfl, by rw [unhide HGB]; exact unhide HR, fun q h1 h2 => hI.bd q h1 h2, unhide HB⟩
      have c2 : ¬ (k : Int) < ((k + 1 - 1 : Nat) : Int) := by simp
      clear hI HR HP HB HI
      go_wp2_with fail
      go_ret
      exact unhide HE
end Go.Proofs.YtdnbhomjfgpcfaaDoor

namespace Go.Proofs.YtdnbhomjfgpcfaaDoor
set_option linter.unusedVariables false
set_option linter.unusedSimpArgs false
open Go.ChangeShapes Go.WideShapes Go.ChangeAt Go.RowKit Go.Joins Go.Deep

/-- where a pattern stands that ends within the first so many -/
def occ (P T : List Int) : Nat → List Nat
  | 0 => []
  | i + 1 => occ P T i ++ (if P.isSuffixOf (T.take (i + 1)) = true then [i + 1 - P.length] else [])
theorem occ_len (P T : List Int) : ∀ i, (occ P T i).length ≤ i
  | 0 => by simp [occ]
  | i + 1 => by
    have := occ_len P T i
    rw [occ, List.length_append]
    split <;> simp <;> omega
theorem Mq.start {P : List Int} (h : 0 < P.length) : Mq P [] 0 := ⟨h, by simp, fun k hk hks => by
    have := hks.length_le
    rw [List.length_take, List.length_nil] at this
    omega⟩
theorem Mq.hit {P X : List Int} {b : Nat} (hs : P <:+ X) (hb : Bd P P.length b) : Mq P X b := by
  refine ⟨hb.1, ?_, fun k hk hks => ?_⟩
  · have h := hb.2.1
    rw [List.take_length] at h
    exact h.trans hs
  · refine hb.2.2 k hk ?_
    rw [List.take_length]
    refine List.suffix_of_suffix_length_le hks hs ?_
    rw [List.length_take]
    omega
def PlR (P T : List Int) (w : World) (r : Ending) (w' : World) : Prop := ∃ v, r = .returned v ∧ w'.ownsRow w.heap.size 3 1 v (occ P T T.length).length (nsv (occ P T T.length)) ∧ Below w.heap.size w w'
set_option maxRecDepth 100000 in
set_option maxHeartbeats 4000000 in
theorem places_any (B B' m t : Nat) (vp vr : Value) (P T : List Int) (w : World) (hr : w.ownsRow B' 21 1 vr t (riv T)) (hp : w.ownsRow B 21 1 vp m (riv P)) (h0 : 0 < m) (hm : m ≤ 1099511627776) (ht : t ≤ 1099511627776) :
    Calls Tryd.prog 54 #[vr, vp] w fun r w' => PlR P T w r w' := by
  have KB := hide (borders_any B m vp P w hp h0 hm)
  have hPl : P.length = m := by have := hp.1; simpa [riv] using this
  have hTl : T.length = t := by have := hr.1; simpa [riv] using this
  have HPL := hide hPl
  have HTL := hide hTl
  obtain ⟨ap, cp, rfl, _, _⟩ := own_sl hp
  obtain ⟨ar, cr, rfl, hrc, _⟩ := own_sl hr
  have HP := hide hp
  have HR := hide hr
  have htI : (t : Int) ≤ 1099511627776 := by omega
  have hmI : (m : Int) ≤ 1099511627776 := by omega
  clear hp hr hPl hTl
  go_enter Tryd.func54, Tryd.ntmps54
  go_wp2_with fail
  refine Calls.mono (unhide KB) ?_
  rintro r w1 ⟨vb, bk, rfl, hb, hbd, b1⟩
  obtain ⟨ab, cb, rfl, _, _⟩ := own_sl hb
  have B1 := hide b1
  have HB := hide (own_base hb (Nat.le_refl _))
  have HBD := hide hbd
  have HP1 := hide (own_call (unhide HP) b1)
  have HR1 := hide (own_call (unhide HR) b1)
  have HS : Hid (Mq P (T.take 0) 0) := hide (Mq.start (by rw [unhide HPL]; exact h0))
  have HO : Hid (w1.ownsRow w.heap.size 3 1 (.slice none 0 0) (occ P T 0).length (nsv (occ P T 0))) := hide ⟨rfl, .inl ⟨rfl, rfl⟩⟩
  clear hb hbd b1 KB HP HR
  go_wp2_with fail
  go_loopw [6, 7, 14] (fun lv nv i wr => ∃ (k n : Nat) (la : Option Addr) (lc : Nat), k ≤ t ∧ i = .int .i64 (k : Int) ∧ nv = .int .i64 (n : Int) ∧ lv = .slice la (occ P T k).length lc ∧ Hid (Mq P (T.take k) n) ∧ Hid (wr.ownsRow w.heap.size 3 1 (.slice la (occ P T k).length lc) (occ P T k).length (nsv (occ P T k))) ∧ Hid (wr.ownsRow w.heap.size 3 1 (.slice ab (m + 1) cb) (m + 1) (nsv bk) ∧ wr.ownsRow B 21 1 (.slice ap m cp) m (riv P) ∧ wr.ownsRow B' 21 1 (.slice ar t cr) t (riv T) ∧ (∀ q, (Value.slice la (occ P T k).length lc).ownBlock = some q → (Value.slice ab (m + 1) cb).ownBlock ≠ some q)) ∧ Hid (Below w.heap.size w wr)) (fun _ _ i _ => ((t : Int) - intOf i).toNat)
  case atStart => exact ⟨0, 0, none, 0, by omega, by simp, rfl, rfl, HS, HO, hide ⟨unhide HB, unhide HP1, unhide HR1, fun q hq => by cases hq⟩, B1⟩
  case round =>
    clear HS HO HB HP1 HR1 B1
    obtain ⟨k, n, la, lc, hk, rfl, rfl, rfl, HM, HO, HX, HB⟩ := hrel
    obtain ⟨ol, hol⟩ : ∃ z, (occ P T k).length = z := ⟨_, rfl⟩
    have holk : ol ≤ k := by rw [← hol]; exact occ_len P T k
    rw [hol] at HO HX ⊢
    have HOL := hide hol
    clear hol
    by_cases c1 : (k : Int) < (t : Int)
    · obtain ⟨x, hx⟩ : ∃ x, T[k]? = some x := ⟨_, List.getElem?_eq_getElem (by rw [unhide HTL]; omega)⟩
      obtain ⟨hxb, hxp, hxr, hsep⟩ := unhide HX
      obtain ⟨gr, c2, e1, hc, _, _, _⟩ := own_rd hxr (i := k) (u := .int .i32 x) (by simp [riv, hx])
      injection e1 with e1 _ e2
      subst e1 e2
      have hM := unhide HM
      have hnm : n < m := by rw [← unhide HPL]; exact hM.1
      have KG := hide (grow_any B w.heap.size m _ _ P bk n x wr hxp hxb hnm hm (fun q h1 h2 => (unhide HBD q h1 (by omega)).1))
      have hg := hM.grow (r := x) (fun q h1 h2 => unhide HBD q h1 (by omega))
      have hxs : T.take (k + 1) = T.take k ++ [x] := by rw [take_next (by rw [unhide HTL]; omega), List.getD_eq_getElem?_getD, hx]; rfl
      rw [← hxs] at hg
      obtain ⟨G, hG⟩ : ∃ G, gw P bk x (n + 1) n = G := ⟨_, rfl⟩
      rw [hG] at KG hg
      have k0 : (0 : Int) ≤ (k : Int) := by omega
      obtain ⟨y, hy⟩ : ∃ y, bk[m]? = some y := ⟨_, List.getElem?_eq_getElem (by have := hxb.1; simp [nsv] at this; omega)⟩
      by_cases hh : G = m
      · subst hh
        have hfull : P <:+ T.take (k + 1) := by have := hg.2.1; rw [← unhide HPL, List.take_length] at this; exact this
        have hyd : bk.getD G 0 = y := by rw [List.getD_eq_getElem?_getD, hy]; rfl
        have hbdm := unhide HBD G h0 (Nat.le_refl _)
        rw [hyd] at hbdm
        have HM2 := hide (Mq.hit hfull (by rw [unhide HPL]; exact hbdm))
        have hlen := hfull.length_le
        rw [unhide HPL, List.length_take] at hlen
        have hoc : occ P T (k + 1) = occ P T k ++ [k + 1 - G] := by rw [occ, if_pos (List.isSuffixOf_iff_suffix.2 hfull), unhide HPL]
        have HOC := hide hoc
        have hval : (k : Int) + 1 - (G : Int) = ((k + 1 - G : Nat) : Int) := by omega
        have hal : Below wr.heap.size wr (wr.alloc (.cells #[.int .i64 ((k : Int) + 1 - (G : Int))] 3)) := (Below.refl _ _).alloc (Nat.le_refl _) _
        have HB2 := hide ((unhide HB).trans (hal.mono (unhide HB).size))
        have HO2 := hide (own_call (unhide HO) hal)
        have HX2 := hide (And.intro (own_call hxb hal) (And.intro (own_call hxp hal) (And.intro (own_call hxr hal) hsep)))
        have HC2 := hide ((RowAt.new wr 3 [.int .i64 ((k : Int) + 1 - (G : Int))]).cell 0)
        have HVAL := hide hval
        have HY := hide hy
        have hk1 : (k : Int) + 1 ≤ 1099511627777 := by omega
        clear hx hxb hxp hxr hsep hM hg hxs hG hfull hyd hbdm hlen hoc hval hal hy HM HO HX HB
        go_wp2_with fail
        refine Calls.mono (unhide KG) ?_
        rintro r w3 ⟨rfl, rfl⟩
        go_wp2_with (at_builtin; refine unhide ?_)
        obtain ⟨i9, hi9, hz9, hs9, hb9⟩ := info64
        refine hide ?_
        refine wpList_append_own_at _ rfl _ _ 38 rfl w.heap.size 3 i9 (.int .i64 0) 1 8 Tryd.underlying38 hi9 hz9 hs9 hb9 rfl (by decide) (.slice la ol lc) ol (nsv (occ P T k)) rfl (unhide HO2) ⟨wr.heap.size, 0, none⟩ 1 1 [.int .i64 ((k : Int) + 1 - (G : Int))] rfl rfl (fun j u hj => by
          match j, hj with
          | 0, hj =>
            obtain rfl : (.int .i64 ((k : Int) + 1 - (G : Int)) : Value) = u := by simpa using hj
            exact unhide HC2) (fun u hu => by rw [List.mem_singleton] at hu; rw [hu]; rfl) (by unfold maxLen; omega) (by omega) (unhide HB2).size ?_
        intro v' w4 ho hgr _ hat
        obtain ⟨a4, c4, rfl, _⟩ := own_sl ho
        have o4 := grown_only hgr
        obtain ⟨h2b, h2p, h2r, h2s⟩ := unhide HX2
        have h4b := own_only h2b o4 (fun q hq hp => h2s q hp hq)
        have h4p := own_only h2p o4 (fun q hq hp => own_ne h2p (unhide HO2) (by decide) q hq hp)
        have h4r := own_only h2r o4 (fun q hq hp => own_ne h2r (unhide HO2) (by decide) q hq hp)
        have HB4 := hide ((unhide HB2).trans (o4.below (unhide HB2).size (fun q hq => ((unhide HO2).lt q hq).1)))
        have hl : (occ P T (k + 1)).length = ol + 1 := by rw [unhide HOC, List.length_append, unhide HOL]; rfl
        have HL := hide hl
        have HX4 : Hid (w4.ownsRow w.heap.size 3 1 (.slice ab (G + 1) cb) (G + 1) (nsv bk) ∧ w4.ownsRow B 21 1 (.slice ap G cp) G (riv P) ∧ w4.ownsRow B' 21 1 (.slice (some ⟨gr, 0, none⟩) t cr) t (riv T) ∧ (∀ q, (Value.slice a4 (ol + 1) c4).ownBlock = some q → (Value.slice ab (G + 1) cb).ownBlock ≠ some q)) := hide ⟨h4b, h4p, h4r, fun q hq hq2 => by
          rcases hat with h9 | h9
          · rw [h9] at hq
            exact h2s q hq hq2
          · rw [h9] at hq
            injection hq with hq
            have := (h2b.lt q hq2).2
            omega⟩
        have HO4 : Hid (w4.ownsRow w.heap.size 3 1 (.slice a4 (ol + 1) c4) (ol + 1) (nsv (occ P T (k + 1)))) := hide (by rw [unhide HOC, nsv_app]; have h9 := ho; rw [unhide HVAL] at h9; exact h9)
        obtain ⟨gb, c5, e5, hcb, _, _, _⟩ := own_rd h4b (i := G) (u := .int .i64 (y : Int)) (by simp [nsv, unhide HY])
        injection e5 with e5 _ e6
        subst e5 e6
        have g0 : (0 : Int) ≤ (G : Int) := by omega
        have g1 : (G : Int) < (G : Int) + 1 := by omega
        clear ho hgr hat o4 h2b h2p h2r h2s h4b h4p h4r hl HO2 HX2 HB2 HC2 i9 hi9 hz9 hs9 hb9
        go_wp2_with fail
        exact ⟨⟨k + 1, y, a4, c4, by omega, by simp, rfl, by rw [unhide HL], HM2, by rw [unhide HL]; exact HO4, by rw [unhide HL]; exact HX4, HB4⟩, by simp [intOf]; omega⟩
      · have hno : ¬ P <:+ T.take (k + 1) := fun hf => by
          have := hg.2.2 m (by rw [unhide HPL]; exact Nat.le_refl _) (by rw [← unhide HPL, List.take_length]; exact hf)
          omega
        have hoc : occ P T (k + 1) = occ P T k := by
          rw [occ, if_neg (fun h => hno (List.isSuffixOf_iff_suffix.1 h)), List.append_nil]
        have HOC := hide hoc
        have HM2 : Hid (Mq P (T.take (k + 1)) G) := hide ⟨by rw [unhide HPL]; omega, hg.2.1, fun q hq hqs => hg.2.2 q (by omega) hqs⟩
        have hne : ((G : Int) == (m : Int)) = false := by simp; omega
        clear hx hxb hxp hxr hsep hM hg hxs hG hno hoc hy HM hh
        go_wp2_with fail
        refine Calls.mono (unhide KG) ?_
        rintro r w3 ⟨rfl, rfl⟩
        go_wp2_with fail
        exact ⟨⟨k + 1, G, la, lc, by omega, by simp, rfl, by rw [unhide HOC, unhide HOL], HM2, by rw [unhide HOC, unhide HOL]; exact HO, by rw [unhide HOC, unhide HOL]; exact HX, HB⟩, by simp [intOf]; omega⟩
    · obtain rfl : t = k := by omega
      have HE : Hid (PlR P T w (.returned (.slice la ol lc)) wr) := hide ⟨_, rfl, by rw [unhide HTL, unhide HOL]; exact unhide HO, unhide HB⟩
      clear HM HO HX HB
      go_wp2_with fail
      go_ret
      exact unhide HE
end Go.Proofs.YtdnbhomjfgpcfaaDoor

namespace Go.Proofs.YtdnbhomjfgpcfaaDoor
set_option linter.unusedVariables false
set_option linter.unusedSimpArgs false
open Go.ChangeShapes Go.WideShapes Go.ChangeAt Go.RowKit Go.Joins Go.Deep

theorem rnv_riv (cs : List (List UInt8)) : rnv cs = riv (rni cs) := by simp [rnv, riv, rni]
theorem rni_len (cs : List (List UInt8)) : (rni cs).length = cs.length := by simp [rni]
def occL (cp cs : List (List UInt8)) : List Nat := occ (rni cp) (rni cs) cs.length
def FindR (s : ByteArray) (cs : List (List UInt8)) (w : World) (r : Ending) (w' : World) : Prop := (Lib.validD s.data.toList = false ∧ r = .returned (.tuple #[.slice none 0 0, .int .i64 21]) ∨ ∃ cp, Tx s cp ∧ (cp = [] ∧ r = .returned (.tuple #[.slice none 0 0, .int .i64 1]) ∨ cp ≠ [] ∧ ∃ v, r = .returned (.tuple #[v, .int .i64 0]) ∧ w'.ownsRow w.heap.size 3 1 v (occL cp cs).length (nsv (occL cp cs)))) ∧ Below w.heap.size w w'
set_option maxRecDepth 100000 in
set_option maxHeartbeats 4000000 in
theorem find_ok {w : World} {B g : Nat} {vr vs : Value} {cs : List (List UInt8)} (h : Ix w B g vr vs cs) (s : ByteArray) (hT : UT w) (hl : cs.length ≤ 1099511627776) (hs : s.size ≤ 1099511627776) : Calls Tryd.prog 29 #[.pointer (some ⟨g, 0, none⟩), .string s] w fun r w' => FindR s cs w r w' := by
  obtain ⟨ar, cr, as_, c_, e1, e2, q0, q1⟩ := h.two
  have KM := hide (made_ok g w as_ _ c_ q1 (sts_pos cs))
  have KT := hide (trunes_any s 9223372036854775807 w hT (by omega))
  have HIX := hide h
  have HE1 := hide e1
  clear h e1 e2 q1 hT
  go_enter Tryd.func29, Tryd.ntmps29
  go_wp2_with fail
  refine Calls.mono (unhide KM) ?_
  rintro r w1 ⟨rfl, rfl⟩
  go_wp2_with fail
  refine Calls.mono (unhide KT) ?_
  rintro r w2 ⟨h2, b2⟩
  have B2 := hide b2
  have hI2 := (unhide HIX).call b2
  clear b2 q0 KT
  rcases h2 with ⟨hv, rfl⟩ | ⟨cp, hx, ⟨h2, rfl⟩ | ⟨h2, v, rfl, ho, -⟩⟩
  · clear hI2
    go_wp2_with fail
    go_ret2
    exact ⟨.inl ⟨hv, rfl⟩, unhide B2⟩
  · exfalso
    have := hx.cps.len
    rw [← hx.size] at this
    omega
  · have hfew : cp.length ≤ 1099511627776 := by have := hx.cps.len; rw [← hx.size] at this; omega
    obtain ⟨ap, c3, rfl, hc1, hc2⟩ := own_sl ho
    have HX := hide hx
    by_cases h0 : cp = []
    · have hn : cp.length = 0 := by rw [h0]; rfl
      rw [hn] at ho hc1 ⊢
      clear hI2 ho hx
      go_wp2_with fail
      go_ret2
      exact ⟨.inr ⟨cp, unhide HX, .inl ⟨h0, rfl⟩⟩, unhide B2⟩
    · have hpos := List.length_pos_iff.2 h0
      have hr2 := hI2.r
      have q0 := hI2.row.cell 0
      simp only [List.getElem?_cons_zero] at q0
      rw [rnv_riv] at ho hr2
      have KP := hide (places_any _ _ cp.length cs.length _ vr (rni cp) (rni cs) w2 hr2 ho hpos hfew hl)
      rw [unhide HE1] at q0 KP
      obtain ⟨n, hn⟩ : ∃ n, cp.length = n := ⟨_, rfl⟩
      rw [hn] at hpos hfew hc1 KP ⊢
      have hn0 : ((n : Int) == 0) = false := by simp; omega
      have H0 := hide h0
      clear hI2 ho hx hr2 hn h0
      go_wp2_with fail
      refine Calls.mono (unhide KP) ?_
      rintro r w3 ⟨v3, rfl, ho3, b3⟩
      rw [rni_len] at ho3
      obtain ⟨a3, c4, rfl, _, _⟩ := own_sl ho3
      have HO := hide (own_base ho3 (unhide B2).size)
      have B3 := hide ((unhide B2).trans (b3.mono (unhide B2).size))
      obtain ⟨ol, hol⟩ : ∃ z, (occ (rni cp) (rni cs) cs.length).length = z := ⟨_, rfl⟩
      rw [hol] at HO ⊢
      have HOL := hide hol
      clear ho3 b3 hol KP
      go_wp2_with fail
      go_ret2
      exact ⟨.inr ⟨cp, unhide HX, .inr ⟨unhide H0, _, rfl, by unfold occL; rw [unhide HOL]; exact unhide HO⟩⟩, unhide B3⟩
end Go.Proofs.YtdnbhomjfgpcfaaDoor

namespace Go.Proofs.YtdnbhomjfgpcfaaDoor
set_option linter.unusedVariables false
set_option linter.unusedSimpArgs false
open Go.ChangeShapes Go.WideShapes Go.ChangeAt Go.RowKit Go.Joins Go.Deep

set_option maxRecDepth 100000 in
set_option maxHeartbeats 4000000 in
theorem ieq_any (B1 B2 : Nat) (v1 v2 : Value) (l1 l2 : List Nat) (w : World) (h1 : w.ownsRow B1 3 1 v1 l1.length (nsv l1)) (h2 : w.ownsRow B2 3 1 v2 l2.length (nsv l2)) (hl : l1.length ≤ 1099511627776) :
    Calls Tryd.prog 31 #[v1, v2] w fun r w' => r = .returned (.bool (decide (l1 = l2))) ∧ Below w.heap.size w w' := by
  obtain ⟨a1, c1, rfl, _, _⟩ := own_sl h1
  obtain ⟨a2, c2, rfl, _, _⟩ := own_sl h2
  have H1 := hide h1
  have H2 := hide h2
  obtain ⟨n, hn⟩ : ∃ n, l1.length = n := ⟨_, rfl⟩
  obtain ⟨m, hm⟩ : ∃ n, l2.length = n := ⟨_, rfl⟩
  have HN := hide hn
  have HM := hide hm
  rw [hn] at hl H1 ⊢
  rw [hm] at H2 ⊢
  have hnI : (n : Int) ≤ 1099511627776 := by omega
  clear h1 h2 hn hm
  by_cases he : n = m
  · subst he
    obtain ⟨b, hb⟩ : ∃ b, decide (l1 = l2) = b := ⟨_, rfl⟩
    rw [hb]
    have HD := hide hb
    clear hb
    go_enter Tryd.func31, Tryd.ntmps31
    go_wp2_with fail
    go_loopw [13] (fun i wr => ∃ k : Nat, k ≤ n ∧ i = .int .i64 (k : Int) ∧ Hid (l1.take k = l2.take k) ∧ Hid (Below w.heap.size w wr)) (fun i _ => ((n : Int) - intOf i).toNat)
    case atStart => exact ⟨0, by omega, by simp, hide (by simp), hide (Below.refl _ _)⟩
    case round =>
      obtain ⟨k, hk, rfl, HT, HB⟩ := hrel
      by_cases c3 : (k : Int) < (n : Int)
      · obtain ⟨x, hx⟩ : ∃ x, l1[k]? = some x := ⟨_, List.getElem?_eq_getElem (by rw [unhide HN]; omega)⟩
        obtain ⟨y, hy⟩ : ∃ y, l2[k]? = some y := ⟨_, List.getElem?_eq_getElem (by rw [unhide HM]; omega)⟩
        obtain ⟨g1, d1, e1, q1, _, _, _⟩ := own_rd (own_call (unhide H1) (unhide HB)) (i := k) (u := .int .i64 (x : Int)) (by simp [nsv, hx])
        obtain ⟨g2, d2, e2, q2, _, _, _⟩ := own_rd (own_call (unhide H2) (unhide HB)) (i := k) (u := .int .i64 (y : Int)) (by simp [nsv, hy])
        injection e1 with e1 _ e3
        injection e2 with e2 _ e4
        subst e1 e2 e3 e4
        have k0 : (0 : Int) ≤ (k : Int) := by omega
        have HXY := hide (And.intro hx hy)
        clear hx hy
        by_cases hxy : x = y
        · have hz : ((x : Int) != (y : Int)) = false := by simp [hxy]
          have HT2 : Hid (l1.take (k + 1) = l2.take (k + 1)) := hide (by rw [List.take_add_one, List.take_add_one, unhide HT, (unhide HXY).1, (unhide HXY).2, hxy])
          clear hxy
          go_wp2_with fail
          go_quiet (fail)
          have HB2 := hide ((unhide HB).trans ((Go.Joins.below_draws _ _ nq).mono (unhide HB).size))
          clear HB
          go_wp2_with fail
          exact ⟨⟨k + 1, by omega, by simp, HT2, HB2⟩, by simp [intOf]; omega⟩
        · have hz : ((x : Int) != (y : Int)) = true := by simp; omega
          have hb : b = false := by
            rw [← unhide HD]
            simp only [decide_eq_false_iff_not]
            intro e
            have h9 := (unhide HXY).1
            rw [e, (unhide HXY).2] at h9
            injection h9 with h9
            exact hxy h9.symm
          subst hb
          clear hxy
          go_wp2_with fail
          go_quiet (fail)
          have HB2 := hide ((unhide HB).trans ((Go.Joins.below_draws _ _ nq).mono (unhide HB).size))
          clear HB
          go_wp2_with fail
          go_ret
          exact ⟨rfl, unhide HB2⟩
      · obtain rfl : n = k := by omega
        have hb : b = true := by
          rw [← unhide HD]
          simp only [decide_eq_true_eq]
          have h9 := unhide HT
          rw [List.take_of_length_le (by rw [unhide HN]; exact Nat.le_refl _), List.take_of_length_le (by rw [unhide HM]; exact Nat.le_refl _)] at h9
          exact h9
        subst hb
        go_wp2_with fail
        go_ret
        exact ⟨rfl, unhide HB⟩
  · have hb : decide (l1 = l2) = false := by
      simp only [decide_eq_false_iff_not]
      intro e
      exact he (by rw [← unhide HN, ← unhide HM, e])
    rw [hb]
    have hz : ((n : Int) != (m : Int)) = true := by simp; omega
    clear hb he
    go_enter Tryd.func31, Tryd.ntmps31
    go_wp2_with fail
    go_ret
    exact ⟨rfl, Below.refl _ _⟩
end Go.Proofs.YtdnbhomjfgpcfaaDoor

namespace Go.Proofs.YtdnbhomjfgpcfaaDoor
set_option linter.unusedVariables false
set_option linter.unusedSimpArgs false
open Go.ChangeShapes Go.WideShapes Go.ChangeAt Go.RowKit Go.Joins Go.Deep

set_option maxRecDepth 100000 in
set_option maxHeartbeats 4000000 in
theorem applied_any (a : Option Addr) (l : List Pt) (c m t : Nat) (s : ByteArray) (cs : List (List UInt8)) (w : World) (hT : UT w) (he : Edit w a l c) (hm : l.length = m) (hx : Tx s cs) (hed : IsEd l cs.length t) :
    Calls Tryd.prog 35 #[.slice a m c, .string s] w fun r w' => ∃ S, r = .returned (.string S) ∧ Tx S (At.app (atomsL l) cs) ∧ Below w.heap.size w w' := by
  have K := hide (apply_at (w := w) s hT he hm (hx.small rfl hed.2.2.2.1) (Below.refl _ _))
  have HO := hide (ed_isOf hx hed)
  have HX := hide hx
  clear hT he hm hx hed
  go_enter Tryd.func35, Tryd.ntmps35
  go_wp2_with fail
  refine Calls.mono (unhide K) ?_
  rintro r w1 ⟨h1, b1⟩
  rcases h1 with ⟨h1, _⟩ | ⟨_, S, c1, x1, x2, rfl⟩
  · rw [unhide HO] at h1; cases h1
  obtain rfl : c1 = cs := x1.inj (unhide HX)
  have HE := hide (And.intro x2 b1)
  clear x1 x2 b1
  go_wp2_with fail
  go_ret
  exact ⟨S, rfl, (unhide HE).1, (unhide HE).2⟩
def IdxR (s : ByteArray) (cs : List (List UInt8)) (w : World) (r : Ending) (w' : World) : Prop := ∃ g vr vs, r = .returned (.pointer (some ⟨g, 0, none⟩)) ∧ Ix w' w.heap.size g vr vs cs ∧ Below w.heap.size w w'
theorem IdxR.shape {s : ByteArray} {cs : List (List UInt8)} {w w' : World} {r : Ending} (h : IdxR s cs w r w') : ∃ g vr vs, r = .returned (.pointer (some ⟨g, 0, none⟩)) ∧ Ix w' w.heap.size g vr vs cs ∧ Below w.heap.size w w' := h
set_option maxRecDepth 100000 in
set_option maxHeartbeats 4000000 in
theorem index_any (s : ByteArray) (cs : List (List UInt8)) (w : World) (hT : UT w) (hs : s.size ≤ 1099511627776) (hx : Tx s cs) : Calls Tryd.prog 26 #[.string s] w fun r w' => IdxR s cs w r w' := by
  have K := hide (new_any s w hT hs)
  have HX := hide hx
  clear hT hx
  go_enter Tryd.func26, Tryd.ntmps26
  go_wp2_with fail
  refine Calls.mono (unhide K) ?_
  rintro r w1 ⟨h1, b1⟩
  rcases h1 with ⟨hv, _⟩ | ⟨c1, g, vr, vs, x1, rfl, hI⟩
  · rw [(unhide HX).valid] at hv
    cases hv
  obtain rfl : c1 = cs := x1.inj (unhide HX)
  have HE := hide (And.intro hI b1)
  clear x1 hI b1
  go_wp2_with fail
  go_ret
  exact ⟨_, _, _, rfl, (unhide HE).1, (unhide HE).2⟩
end Go.Proofs.YtdnbhomjfgpcfaaDoor

namespace Go.Proofs.YtdnbhomjfgpcfaaDoor
set_option linter.unusedVariables false
set_option linter.unusedSimpArgs false
open Go.ChangeShapes Go.WideShapes Go.ChangeAt Go.RowKit Go.Joins Go.Deep

def longB (l : List ByteArray) : Bool := l.any (fun s => decide (2048 < s.size))
theorem long1 (s : ByteArray) (w : World) : Calls Tryd.prog 43 #[.string s] w fun r w' => r = .returned (.bool (decide (2048 < s.size))) ∧ w = w' := by
  by_cases h : 2048 < s.size
  · have h' : (2048 : Int) < (s.size : Int) := by omega
    rw [show decide (2048 < s.size) = true by simp [h]]
    go_enter Tryd.func43, Tryd.ntmps43
    go_wp2_with fail
    go_ret
    exact ⟨by first | rfl | simp [h], rfl⟩
  · have h' : ¬ (2048 : Int) < (s.size : Int) := by omega
    rw [show decide (2048 < s.size) = false by simp; omega]
    go_enter Tryd.func43, Tryd.ntmps43
    go_wp2_with fail
    go_ret
    exact ⟨by first | rfl | (simp; omega), rfl⟩
set_option maxRecDepth 100000 in
set_option maxHeartbeats 4000000 in
theorem ixf_any (B : Nat) (v : Value) (l : List ByteArray) (w : World) (h : w.ownsRow B 9 1 v l.length (l.map .string)) (hl : l.length ≤ 1099511627776) : Calls Tryd.prog 69 #[v, .func (.func 43) #[] #[]] w fun r w' => (∃ k : Int, r = .returned (.int .i64 k) ∧ -9223372036854775808 ≤ k ∧ k ≤ 9223372036854775807 ∧ decide (0 ≤ k) = longB l) ∧ w = w' := by
  obtain ⟨a, c, rfl, _, _⟩ := own_sl h
  have HR := hide h
  obtain ⟨n, hn⟩ : ∃ n, l.length = n := ⟨_, rfl⟩
  rw [hn] at hl HR ⊢
  have HN := hide hn
  have hnI : (n : Int) ≤ 1099511627776 := by omega
  clear h hn
  go_enter Tryd.func69, Tryd.ntmps69
  go_wp2_with fail
  go_loopw [8] (fun i wr => ∃ k : Nat, k ≤ n ∧ i = .int .i64 (k : Int) ∧ Hid (longB (l.take k) = false) ∧ w = wr) (fun i _ => ((n : Int) - intOf i).toNat)
  case atStart => exact ⟨0, by omega, by simp, hide (by simp [longB]), rfl⟩
  case round =>
    obtain ⟨k, hk, rfl, HT, rfl⟩ := hrel
    by_cases c3 : (k : Int) < (n : Int)
    · obtain ⟨s, hs⟩ : ∃ s, l[k]? = some s := ⟨_, List.getElem?_eq_getElem (by rw [unhide HN]; omega)⟩
      obtain ⟨g1, d1, e1, q1, _, _, _⟩ := own_rd (unhide HR) (i := k) (u := .string s) (by simp [hs])
      injection e1 with e1 _ e3
      subst e1 e3
      have k0 : (0 : Int) ≤ (k : Int) := by omega
      have K := hide (long1 s w)
      have HS := hide hs
      clear hs
      by_cases hb : 2048 < s.size
      · rw [show decide (2048 < s.size) = true by simp [hb]] at K
        have HB := hide hb
        clear hb
        go_wp2_with fail
        refine Calls.mono (unhide K) ?_
        rintro r w2 ⟨rfl, rfl⟩
        go_wp2_with fail
        go_ret
        refine ⟨⟨(k : Int), rfl, by omega, by omega, ?_⟩, rfl⟩
        have h1 : longB l = true := by
          unfold longB
          rw [List.any_eq_true]
          exact ⟨s, List.mem_of_getElem? (unhide HS), by simp [unhide HB]⟩
        rw [h1]
        simp
      · rw [show decide (2048 < s.size) = false by simp; omega] at K
        have HT2 : Hid (longB (l.take (k + 1)) = false) := hide (by
          have h1 := unhide HT
          unfold longB at h1 ⊢
          rw [List.take_add_one, unhide HS, List.any_append, h1]
          simp
          omega)
        clear hb HT
        go_wp2_with fail
        refine Calls.mono (unhide K) ?_
        rintro r w2 ⟨rfl, rfl⟩
        go_wp2_with fail
        exact ⟨⟨k + 1, by omega, by simp, HT2, by trivial⟩, by simp [intOf]; omega⟩
    · obtain rfl : n = k := by omega
      go_wp2_with fail
      go_ret
      refine ⟨⟨-1, rfl, by omega, by omega, ?_⟩, rfl⟩
      have h1 := unhide HT
      rw [List.take_of_length_le (by rw [unhide HN]; exact Nat.le_refl _)] at h1
      rw [h1]
      simp
set_option maxRecDepth 100000 in
set_option maxHeartbeats 4000000 in
theorem long_any (B : Nat) (v : Value) (l : List ByteArray) (w : World) (h : w.ownsRow B 9 1 v l.length (l.map .string)) (hl : l.length ≤ 1099511627776) : Calls Tryd.prog 12 #[v] w fun r w' => r = .returned (.bool (longB l)) ∧ w = w' := by
  have K := hide (ixf_any B v l w h hl)
  have KC : Hid (Calls Tryd.prog 42 #[v, .func (.func 43) #[] #[]] w fun r w' => r = .returned (.bool (longB l)) ∧ w = w') := hide (by
    clear h
    go_enter Tryd.func42, Tryd.ntmps42
    go_wp2_with fail
    refine Calls.mono (unhide K) ?_
    rintro r w1 ⟨⟨k, rfl, h1, h2, h3⟩, rfl⟩
    have H3 := hide h3
    clear h3
    go_wp2_with fail
    go_ret
    exact ⟨by rw [← unhide H3]; rfl, rfl⟩)
  clear h K
  go_enter Tryd.func12, Tryd.ntmps12
  go_wp2_with fail
  refine Calls.mono (unhide KC) ?_
  rintro r w1 ⟨rfl, rfl⟩
  go_wp2_with fail
  go_ret
  exact ⟨rfl, rfl⟩
end Go.Proofs.YtdnbhomjfgpcfaaDoor

namespace Go.Proofs.YtdnbhomjfgpcfaaDoor
set_option linter.unusedVariables false
set_option linter.unusedSimpArgs false
open Go.ChangeShapes Go.WideShapes Go.ChangeAt Go.RowKit Go.Joins Go.Deep

def movB (n : Nat) (f k t : Int) : Bool := decide (0 ≤ f ∧ f < (n : Int)) && decide (0 ≤ k) && decide (k ≤ (n : Int) - 1 - f) && (decide (0 ≤ t ∧ t < (n : Int)) && (decide (t ≤ f) || decide (f + k ≤ t)))
set_option maxRecDepth 100000 in
set_option maxHeartbeats 4000000 in
theorem moves_ok (g : Nat) (f k t : Int) (w : World) (a : Option Addr) (n c : Nat) (h : w.cell? ⟨g, 1, none⟩ = some (.slice a n c)) (hn : n ≤ 1099511627777) (hk1 : -9223372036854775808 ≤ k) (hk2 : k ≤ 9223372036854775807) : Calls Tryd.prog 61 #[.pointer (some ⟨g, 0, none⟩), .int .i64 f, .int .i64 k, .int .i64 t] w fun r w' => r = .returned (.bool (movB n f k t)) ∧ w = w' := by
  have K1 := hide (isLine_ok g f w a n c h)
  have K2 := hide (isLine_ok g t w a n c h)
  by_cases h1 : 0 ≤ f ∧ f < (n : Int)
  · rw [show decide (0 ≤ f ∧ f < (n : Int)) = true by simp; omega] at K1
    have hf := h1
    by_cases h2 : 0 ≤ k
    · by_cases h3 : k ≤ (n : Int) - 1 - f
      · have h2' : ¬ k < 0 := by omega
        have h3' : ¬ (n : Int) - 1 - f < k := by omega
        have hfk : 0 ≤ f + k ∧ f + k ≤ 1099511627777 := by omega
        by_cases h4 : 0 ≤ t ∧ t < (n : Int)
        · rw [show decide (0 ≤ t ∧ t < (n : Int)) = true by simp; omega] at K2
          by_cases h5 : t ≤ f
          · rw [show movB n f k t = true by unfold movB; simp; omega]
            go_enter Tryd.func61, Tryd.ntmps61
            go_wp2_with fail
            refine Calls.mono (unhide K1) ?_
            rintro r w1 ⟨rfl, rfl⟩
            go_wp2_with fail
            refine Calls.mono (unhide K2) ?_
            rintro r w1 ⟨rfl, rfl⟩
            go_wp2_with fail
            go_ret
            exact ⟨by first | rfl | (simp; done) | (simp; omega), rfl⟩
          · by_cases h6 : f + k ≤ t
            · rw [show movB n f k t = true by unfold movB; simp; omega]
              go_enter Tryd.func61, Tryd.ntmps61
              go_wp2_with fail
              refine Calls.mono (unhide K1) ?_
              rintro r w1 ⟨rfl, rfl⟩
              go_wp2_with fail
              refine Calls.mono (unhide K2) ?_
              rintro r w1 ⟨rfl, rfl⟩
              go_wp2_with fail
              go_ret
              exact ⟨by first | rfl | (simp; done) | (simp; omega), rfl⟩
            · rw [show movB n f k t = false by unfold movB; simp; omega]
              go_enter Tryd.func61, Tryd.ntmps61
              go_wp2_with fail
              refine Calls.mono (unhide K1) ?_
              rintro r w1 ⟨rfl, rfl⟩
              go_wp2_with fail
              refine Calls.mono (unhide K2) ?_
              rintro r w1 ⟨rfl, rfl⟩
              go_wp2_with fail
              go_ret
              exact ⟨by first | rfl | (simp; done) | (simp; omega), rfl⟩
        · rw [show decide (0 ≤ t ∧ t < (n : Int)) = false by simp; omega] at K2
          rw [show movB n f k t = false by unfold movB; simp; omega]
          go_enter Tryd.func61, Tryd.ntmps61
          go_wp2_with fail
          refine Calls.mono (unhide K1) ?_
          rintro r w1 ⟨rfl, rfl⟩
          go_wp2_with fail
          refine Calls.mono (unhide K2) ?_
          rintro r w1 ⟨rfl, rfl⟩
          go_wp2_with fail
          go_ret
          exact ⟨by first | rfl | (simp; done) | (simp; omega), rfl⟩
      · have h2' : ¬ k < 0 := by omega
        have h3' : (n : Int) - 1 - f < k := by omega
        rw [show movB n f k t = false by unfold movB; simp; omega]
        go_enter Tryd.func61, Tryd.ntmps61
        go_wp2_with fail
        refine Calls.mono (unhide K1) ?_
        rintro r w1 ⟨rfl, rfl⟩
        go_wp2_with fail
        go_ret
        exact ⟨by first | rfl | (simp; done) | (simp; omega), rfl⟩
    · have h2' : k < 0 := by omega
      rw [show movB n f k t = false by unfold movB; simp; omega]
      go_enter Tryd.func61, Tryd.ntmps61
      go_wp2_with fail
      refine Calls.mono (unhide K1) ?_
      rintro r w1 ⟨rfl, rfl⟩
      go_wp2_with fail
      go_ret
      exact ⟨by first | rfl | (simp; done) | (simp; omega), rfl⟩
  · rw [show decide (0 ≤ f ∧ f < (n : Int)) = false by simp; omega] at K1
    rw [show movB n f k t = false by unfold movB; simp; omega]
    go_enter Tryd.func61, Tryd.ntmps61
    go_wp2_with fail
    refine Calls.mono (unhide K1) ?_
    rintro r w1 ⟨rfl, rfl⟩
    go_wp2_with fail
    go_ret
    exact ⟨by first | rfl | (simp; done) | (simp; omega), rfl⟩
end Go.Proofs.YtdnbhomjfgpcfaaDoor

namespace Go.Proofs.YtdnbhomjfgpcfaaDoor
set_option linter.unusedVariables false
set_option linter.unusedSimpArgs false
open Go.ChangeShapes Go.WideShapes Go.ChangeAt Go.RowKit Go.Joins Go.Deep

def stN (cs : List (List UInt8)) (i : Nat) : Nat := (sts cs).getD i 0
theorem stN_get {cs : List (List UInt8)} {i : Nat} (h : i < (sts cs).length) : (sts cs)[i]? = some (stN cs i) := by
  unfold stN
  rw [List.getD_eq_getElem?_getD, List.getElem?_eq_getElem h]
  rfl
theorem stN_le {cs : List (List UInt8)} {i : Nat} (h : i < (sts cs).length) : stN cs i ≤ cs.length := sts_le (List.mem_of_getElem? (stN_get h))
theorem count_sorted : ∀ {l : List Nat}, l.Pairwise (· < ·) → ∀ (p j : Nat), j < l.length → (l.getD j 0 ≤ p ↔ j < l.countP (fun y => decide (y ≤ p)))
  | [], _, p, j, hj => by simp at hj
  | a :: l, h, p, j, hj => by
    rw [List.pairwise_cons] at h
    by_cases ha : a ≤ p
    · rw [List.countP_cons_of_pos (by simpa using ha)]
      cases j with
      | zero => simp [ha]
      | succ j =>
        have := count_sorted h.2 p j (by simpa using hj)
        simp only [List.getD_cons_succ]
        omega
    · rw [List.countP_cons_of_neg (by simpa using ha)]
      have hz : l.countP (fun y => decide (y ≤ p)) = 0 := by
        rw [List.countP_eq_zero]
        intro b hb
        have := h.1 b hb
        simp; omega
      rw [hz]
      cases j with
      | zero => simp [ha]
      | succ j =>
        simp only [List.getD_cons_succ]
        have hj2 : j < l.length := by simpa using hj
        have hm : l.getD j 0 ∈ l := by
          rw [List.getD_eq_getElem?_getD, List.getElem?_eq_getElem hj2]
          exact List.getElem_mem hj2
        have := h.1 _ hm
        omega
theorem line_of {cs : List (List UInt8)} {p : Nat} (hp : p ≤ cs.length) : lineOf cs p < (sts cs).length ∧ stN cs (lineOf cs p) ≤ p ∧ p ≤ endL cs (lineOf cs p) := by
  have h1 := line_pos cs p
  have h2 := line_lt cs p
  have h3 := (count_sorted (sts_sorted cs) p (lineOf cs p) h2).2 (by unfold lineOf; omega)
  refine ⟨h2, h3, ?_⟩
  unfold endL
  split
  · rename_i h4
    have h5 := count_sorted (sts_sorted cs) p (lineOf cs p + 1) h4
    have h6 : ¬ lineOf cs p + 1 < (sts cs).countP (fun y => decide (y ≤ p)) := by unfold lineOf; omega
    omega
  · exact hp
theorem stN_mono {cs : List (List UInt8)} {a b : Nat} (h : a < b) (hb : b < (sts cs).length) : stN cs a < stN cs b := by
  have h1 := List.pairwise_iff_getElem.1 (sts_sorted cs) a b (by omega) hb h
  have h2 := stN_get (cs := cs) (i := a) (by omega)
  have h3 := stN_get (cs := cs) (i := b) hb
  rw [List.getElem?_eq_getElem (by omega)] at h2
  rw [List.getElem?_eq_getElem hb] at h3
  rw [← Option.some.inj h2, ← Option.some.inj h3]
  exact h1
theorem st_next {cs : List (List UInt8)} {i : Nat} (h : i + 1 < (sts cs).length) : stN cs i + 1 ≤ stN cs (i + 1) := stN_mono (by omega) h
theorem line_end {cs : List (List UInt8)} {i : Nat} (hi : i < (sts cs).length) : lineOf cs (endL cs i) = i := by
  have h1 := line_pos cs (endL cs i)
  have h2 : stN cs i ≤ endL cs i := st_end cs hi
  have h3 := (count_sorted (sts_sorted cs) (endL cs i) i hi).1 h2
  have h4 : (sts cs).countP (fun y => decide (y ≤ endL cs i)) ≤ i + 1 := by
    by_cases c : i + 1 < (sts cs).length
    · have h5 := count_sorted (sts_sorted cs) (endL cs i) (i + 1) c
      have h6 := st_next c
      have h7 : endL cs i = stN cs (i + 1) - 1 := by unfold endL; rw [if_pos c]; rfl
      change stN cs (i + 1) ≤ endL cs i ↔ _ at h5
      omega
    · omega
  unfold lineOf
  omega
theorem where_at {cs : List (List UInt8)} {p : Nat} (hp : p ≤ cs.length) : whereE cs (p : Int) = .tuple #[.int .i64 (lineOf cs p : Int), .int .i64 ((p : Int) - (stN cs (lineOf cs p) : Int)), .int .i64 0] := by
  unfold whereE
  rw [if_pos (by omega), Int.toNat_natCast]
  rfl
theorem at_at {cs : List (List UInt8)} {i : Nat} {j : Int} (hi : i < (sts cs).length) (hj : 0 ≤ j) : atE cs (i : Int) j = .tuple #[.int .i64 ((stN cs i : Int) + min j ((endL cs i : Int) - (stN cs i : Int))), .int .i64 0] := by
  unfold atE
  rw [if_pos (by omega), Int.toNat_natCast]
  rfl
theorem line_at {cs : List (List UInt8)} {i : Nat} (hi : i < (sts cs).length) : lineE cs (i : Int) = .tuple #[.string (tb (sub cs (stN cs i) (endL cs i))), .int .i64 0] := by
  unfold lineE
  rw [if_pos (by omega), Int.toNat_natCast]
  rfl
end Go.Proofs.YtdnbhomjfgpcfaaDoor

namespace Go.Proofs.YtdnbhomjfgpcfaaDoor
set_option linter.unusedVariables false
set_option linter.unusedSimpArgs false
open Go.ChangeShapes Go.WideShapes Go.ChangeAt Go.RowKit Go.Joins Go.Deep

theorem Cp.bytes {c : List UInt8} (h : Cp c) : (∃ b : UInt8, c = [b] ∧ b.toNat < 128 ∧ rn c = b.toNat) ∨ (∃ b l, c = b :: l ∧ 192 ≤ b.toNat ∧ l ≠ [] ∧ (∀ x ∈ l, 128 ≤ x.toNat ∧ x.toNat < 192) ∧ 128 ≤ rn c) := by
  have h4 := h.four
  have ho := h.ok
  have ha := h.all
  have hn := h.ne
  unfold rn
  match c, h4, hn, ho, ha with
  | [], _, hn, _, _ => exact absurd rfl hn
  | [b0], _, _, ho, ha =>
    have u0 := b0.toNat_lt
    simp only [Lib.decodeL_N, Lib.decodeN, List.length_cons, List.length_nil, List.getD_cons_zero] at ho ha ⊢
    by_cases h1 : b0.toNat < 128
    · rw [if_pos h1]
      exact .inl ⟨b0, rfl, h1, rfl⟩
    · exfalso
      rw [if_neg h1, if_neg (by omega), if_neg (by omega), if_neg (by omega)] at ho
      exact ho ⟨rfl, rfl⟩
  | [b0, b1], _, _, ho, ha =>
    simp only [Lib.decodeL_N, Lib.decodeN, List.length_cons, List.length_nil, List.getD_cons_zero, List.getD_cons_succ] at ho ha ⊢
    split at ha
    · simp at ha
    · rename_i h1
      rw [if_neg h1] at ho ⊢
      split at ha
      · rename_i h2
        rw [if_pos h2] at ho ⊢
        split at ha
        · rename_i h3
          rw [if_pos h3]
          refine .inr ⟨b0, [b1], rfl, by omega, by simp, fun x hx => ?_, by show 128 ≤ _; omega⟩
          rw [List.mem_singleton] at hx
          subst hx
          omega
        · simp at ha
      · rw [if_neg (by omega), if_neg (by omega)] at ha
        simp at ha
  | [b0, b1, b2], _, _, ho, ha =>
    simp only [Lib.decodeL_N, Lib.decodeN, List.length_cons, List.length_nil, List.getD_cons_zero, List.getD_cons_succ] at ho ha ⊢
    split at ha
    · simp at ha
    · rename_i h1
      rw [if_neg h1] at ho ⊢
      split at ha
      · split at ha <;> simp at ha
      · rename_i h2
        rw [if_neg h2] at ho ⊢
        split at ha
        · rename_i h3
          rw [if_pos h3] at ho ⊢
          split at ha
          · rename_i h5
            rw [if_pos h5]
            refine .inr ⟨b0, [b1, b2], rfl, by omega, by simp, fun x hx => ?_, by show 128 ≤ _; omega⟩
            simp only [List.mem_cons, List.not_mem_nil, or_false] at hx
            rcases hx with rfl | rfl <;> omega
          · simp at ha
        · rw [if_neg (by omega)] at ha
          simp at ha
  | [b0, b1, b2, b3], _, _, ho, ha =>
    simp only [Lib.decodeL_N, Lib.decodeN, List.length_cons, List.length_nil, List.getD_cons_zero, List.getD_cons_succ] at ho ha ⊢
    split at ha
    · simp at ha
    · rename_i h1
      rw [if_neg h1] at ho ⊢
      split at ha
      · split at ha <;> simp at ha
      · rename_i h2
        rw [if_neg h2] at ho ⊢
        split at ha
        · split at ha <;> simp at ha
        · rename_i h3
          rw [if_neg h3] at ho ⊢
          split at ha
          · rename_i h5
            rw [if_pos h5] at ho ⊢
            split at ha
            · rename_i h6
              rw [if_pos h6]
              refine .inr ⟨b0, [b1, b2, b3], rfl, by omega, by simp, fun x hx => ?_, by show 128 ≤ _; omega⟩
              simp only [List.mem_cons, List.not_mem_nil, or_false] at hx
              rcases hx with rfl | rfl | rfl <;> omega
            · simp at ha
          · simp at ha
  | _ :: _ :: _ :: _ :: _ :: _, h4, _, _, _ => simp only [List.length_cons] at h4; omega
theorem Cp.low {c : List UInt8} (h : Cp c) {b : UInt8} (hb : b ∈ c) (hl : b.toNat < 128) : c = [b] ∧ rn c = b.toNat := by
  rcases h.bytes with ⟨d, rfl, h1, h2⟩ | ⟨d, l, rfl, h1, _, h3, _⟩
  · rw [List.mem_singleton] at hb
    subst hb
    exact ⟨rfl, h2⟩
  · exfalso
    rcases List.mem_cons.1 hb with rfl | h4
    · omega
    · have := h3 b h4
      omega
theorem Cp.rn_low {c : List UInt8} (h : Cp c) (hl : rn c < 128) : ∃ b : UInt8, c = [b] ∧ b.toNat = rn c := by
  rcases h.bytes with ⟨d, rfl, h1, h2⟩ | ⟨d, l, rfl, h1, _, h3, h4⟩
  · exact ⟨d, rfl, h2.symm⟩
  · omega
end Go.Proofs.YtdnbhomjfgpcfaaDoor
