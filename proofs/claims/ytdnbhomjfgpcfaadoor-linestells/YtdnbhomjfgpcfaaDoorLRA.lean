/- The document's At, Where, Line. -/
import Derived.Test.YtdnbhomjfgpcfaaDoorLRB
namespace Go.Proofs.YtdnbhomjfgpcfaaDoor
set_option linter.unusedVariables false
set_option linter.unusedSimpArgs false
open Go.ChangeShapes Go.WideShapes Go.ChangeAt Go.RowKit Go.Joins Go.Deep

set_option maxRecDepth 100000 in
set_option maxHeartbeats 4000000 in
theorem rat_ok {w : World} {B g : Nat} {vr : Value} {cs : List (List UInt8)} (h : RIx w B g vr cs) (hfew : cs.length ≤ 1099511627776) (i j : Int) (hj : j ≤ 9223372036854775807) : Calls Tryd.prog 19 #[.pointer (some ⟨g, 0, none⟩), .int .i64 i, .int .i64 j] w fun r w' => r = .returned (atE cs i j) ∧ Below w.heap.size w w' := by
  have K := hide (bounds_ok h hfew i)
  clear h
  by_cases hi : 0 ≤ i ∧ i < ((sts cs).length : Int)
  · obtain ⟨k, rfl⟩ : ∃ k : Nat, i = (k : Int) := ⟨i.toNat, by omega⟩
    have hk : k < (sts cs).length := by omega
    rw [bndE_in hk] at K
    have hel := end_le cs k
    have hst := st_end cs hk
    rw [show (sts cs).getD k 0 = stN cs k from rfl] at hst
    by_cases hj0 : 0 ≤ j
    · rw [at_at hk hj0]
      obtain ⟨f, hf⟩ : ∃ z, stN cs k = z := ⟨_, rfl⟩
      obtain ⟨e, he⟩ : ∃ z, endL cs k = z := ⟨_, rfl⟩
      rw [hf, he] at K hst
      rw [he] at hel
      rw [hf, he]
      have hfe : (f : Int) ≤ (e : Int) := by omega
      have heI : (e : Int) ≤ 1099511627776 := by omega
      have hj1 : ¬ j < 0 := by omega
      clear hf he hi hk hst hel
      by_cases hc : j > (e : Int) - (f : Int)
      · have hv : (f : Int) + min j ((e : Int) - (f : Int)) = (e : Int) := by omega
        rw [hv]
        clear hv
        go_enter Tryd.func19, Tryd.ntmps19
        go_wp2_with fail
        refine Calls.mono (unhide K) ?_
        rintro r w1 ⟨rfl, b1⟩
        have B1 := hide b1
        clear b1
        go_wp2_with fail
        go_ret2
        exact ⟨rfl, unhide B1⟩
      · have hv : (f : Int) + min j ((e : Int) - (f : Int)) = (f : Int) + j := by omega
        rw [hv]
        have hcc : ¬ (e : Int) - (f : Int) < j := by omega
        clear hv
        go_enter Tryd.func19, Tryd.ntmps19
        go_wp2_with fail
        refine Calls.mono (unhide K) ?_
        rintro r w1 ⟨rfl, b1⟩
        have B1 := hide b1
        clear b1
        go_wp2_with fail
        go_ret2
        exact ⟨rfl, unhide B1⟩
    · have hv : atE cs (k : Int) j = .tuple #[.int .i64 0, .int .i64 1] := by unfold atE; rw [if_neg (fun x => hj0 x.2.2)]
      rw [hv]
      have hj1 : j < 0 := by omega
      clear hv hi hk hst hel
      go_enter Tryd.func19, Tryd.ntmps19
      go_wp2_with fail
      refine Calls.mono (unhide K) ?_
      rintro r w1 ⟨rfl, b1⟩
      have B1 := hide b1
      clear b1
      go_wp2_with fail
      go_ret2
      exact ⟨rfl, unhide B1⟩
  · have hv : atE cs i j = .tuple #[.int .i64 0, .int .i64 1] := by unfold atE; rw [if_neg (fun x => hi ⟨x.1, x.2.1⟩)]
    rw [hv]
    rw [bndE_out hi] at K
    clear hv hi
    go_enter Tryd.func19, Tryd.ntmps19
    go_wp2_with fail
    refine Calls.mono (unhide K) ?_
    rintro r w1 ⟨rfl, b1⟩
    have B1 := hide b1
    clear b1
    go_wp2_with fail
    go_ret2
    exact ⟨rfl, unhide B1⟩
theorem whereE_in {cs : List (List UInt8)} {p : Nat} (hp : p ≤ cs.length) : whereE cs (p : Int) = .tuple #[.int .i64 (wL cs p : Int), .int .i64 (wC cs p : Int), .int .i64 0] := by
  obtain ⟨h1, h2⟩ := w_where hp
  rw [where_at hp, h2, h1]
theorem whereE_out {cs : List (List UInt8)} {p : Int} (hp : ¬ (0 ≤ p ∧ p ≤ (cs.length : Int))) : whereE cs p = .tuple #[.int .i64 0, .int .i64 0, .int .i64 1] := if_neg hp
set_option maxRecDepth 100000 in
set_option maxHeartbeats 4000000 in
theorem rwhere_ok {w : World} {B g : Nat} {vr : Value} {cs : List (List UInt8)} (h : RIx w B g vr cs) (hfew : cs.length ≤ 1099511627776) (p : Int) : Calls Tryd.prog 21 #[.pointer (some ⟨g, 0, none⟩), .int .i64 p] w fun r w' => r = .returned (whereE cs p) ∧ w = w' := by
  obtain ⟨ar, cr, rfl, hcell, hncr, hcm⟩ := h.one
  have HO := hide h.r
  obtain ⟨n, hn⟩ : ∃ n, cs.length = n := ⟨_, rfl⟩
  have HN := hide hn
  by_cases hp0 : 0 ≤ p ∧ p ≤ (cs.length : Int)
  · obtain ⟨q, rfl⟩ : ∃ k : Nat, p = (k : Int) := ⟨p.toNat, by omega⟩
    rw [whereE_in (by omega)]
    rw [hn] at HO hcell hfew hncr hp0
    obtain ⟨L, hL⟩ : ∃ z, wL cs q = z := ⟨_, rfl⟩
    obtain ⟨C, hC⟩ : ∃ z, wC cs q = z := ⟨_, rfl⟩
    have HLC := hide (And.intro hL hC)
    rw [hL, hC]
    have q0 : (0 : Int) ≤ (q : Int) := by omega
    have qn : (q : Int) ≤ (n : Int) := by omega
    have qc : (q : Int) ≤ (cr : Int) := by omega
    have q1 : ¬ (q : Int) < 0 := by omega
    have q2 : ¬ (n : Int) < (q : Int) := by omega
    have hqf : (q : Int) ≤ 1099511627776 := by omega
    clear hn h hp0 hL hC
    go_enter Tryd.func21, Tryd.ntmps21
    go_wp2_with fail
    go_loopw [7, 8, 29] (fun u v i wr => ∃ (k : Nat), k ≤ q ∧ i = .int .i64 (k : Int) ∧ u = .int .i64 (wL cs k : Int) ∧ v = .int .i64 (wC cs k : Int) ∧ w = wr) (fun _ _ i _ => ((q : Int) - intOf i).toNat)
    case atStart => exact ⟨0, by omega, by simp, by rw [(w_zero cs).1]; simp, by rw [(w_zero cs).2]; simp, rfl⟩
    case round =>
      obtain ⟨k, hk, rfl, rfl, rfl, rfl⟩ := hrel
      by_cases c1 : (k : Int) < (q : Int)
      · obtain ⟨x, hx⟩ : ∃ x, cs[k]? = some x := ⟨_, List.getElem?_eq_getElem (by rw [unhide HN]; omega)⟩
        obtain ⟨gr, cg, e, hce, _, hcc, _⟩ := own_rd (unhide HO) (rnv_at hx)
        injection e with e1 _ e3
        subst e1 e3
        obtain ⟨y, hy⟩ : ∃ y : Int, (rn x : Int) = y := ⟨_, rfl⟩
        rw [hy] at hce
        have k0 : (0 : Int) ≤ (k : Int) := by omega
        have kn : (k : Int) < (n : Int) := by omega
        have HW : Hid ((y = 10 → wL cs (k + 1) = wL cs k + 1 ∧ wC cs (k + 1) = 0) ∧ (¬ y = 10 → wL cs (k + 1) = wL cs k ∧ wC cs (k + 1) = wC cs k + 1)) := hide ⟨fun e => w_hit hx (by omega), fun e => w_miss hx (by omega)⟩
        have hl1 := wL_le cs k
        have hc1 := wC_le cs k
        obtain ⟨l, hl⟩ : ∃ z, wL cs k = z := ⟨_, rfl⟩
        obtain ⟨c, hc⟩ : ∃ z, wC cs k = z := ⟨_, rfl⟩
        rw [hl] at hl1 ⊢
        rw [hc] at hc1 ⊢
        rw [hl, hc] at HW
        clear hx hy hl hc
        by_cases h10 : y = 10
        · have h10' : (y == 10) = true := by simp [h10]
          obtain ⟨z1, z2⟩ := (unhide HW).1 h10
          clear h10
          go_wp2_with fail
          exact ⟨⟨k + 1, by omega, by simp, by rw [z1]; simp, by rw [z2]; simp, by first | trivial | rfl⟩, by simp [intOf]; omega⟩
        · have h10' : (y == 10) = false := by simp [h10]
          obtain ⟨z1, z2⟩ := (unhide HW).2 h10
          clear h10
          go_wp2_with fail
          exact ⟨⟨k + 1, by omega, by simp, by rw [z1], by rw [z2]; simp, by first | trivial | rfl⟩, by simp [intOf]; omega⟩
      · obtain rfl : q = k := by omega
        rw [(unhide HLC).1, (unhide HLC).2]
        go_wp2_with fail
        go_returns
        exact ⟨rfl, rfl⟩
  · rw [whereE_out hp0]
    rw [hn] at HO hcell hfew hncr hp0
    clear hn h
    by_cases hpn : p < 0
    · go_enter Tryd.func21, Tryd.ntmps21
      go_wp2_with fail
      go_returns
      exact ⟨rfl, rfl⟩
    · have hp1 : (n : Int) < p := by omega
      go_enter Tryd.func21, Tryd.ntmps21
      go_wp2_with fail
      go_returns
      exact ⟨rfl, rfl⟩
theorem sub_zero (cs : List (List UInt8)) (f : Nat) : tb (sub cs f f) = ⟨#[]⟩ := by simp [tb, sub]
theorem sub_next {cs : List (List UInt8)} (hcs : Cps cs) {f k : Nat} {c : List UInt8} (h : cs[f + k]? = some c) : tb (sub cs f (f + k + 1)) = tb (sub cs f (f + k)) ++ Utf8.encode (rn c : Int) := by
  have hc : Cp c := hcs _ (List.mem_of_getElem? h)
  have e : sub cs f (f + k + 1) = sub cs f (f + k) ++ [c] := by
    unfold sub
    rw [show f + k + 1 - f = k + 1 by omega, show f + k - f = k by omega, List.take_add_one, List.getElem?_drop, h]
    rfl
  rw [e]
  unfold rn
  rw [enc_cp hc]
  unfold tb
  apply ByteArray.ext
  simp
theorem sub_size {cs : List (List UInt8)} (hcs : Cps cs) (f e : Nat) : (tb (sub cs f e)).size ≤ 4 * (e - f) := by
  have hc : Cps (sub cs f e) := fun c h => hcs c (List.mem_of_mem_drop (List.mem_of_mem_take h))
  have := hc.most
  have h2 : (sub cs f e).length ≤ e - f := by unfold sub; rw [List.length_take]; omega
  show (sub cs f e).flatten.toArray.size ≤ _
  simp only [List.size_toArray]
  omega
set_option maxRecDepth 100000 in
set_option maxHeartbeats 4000000 in
theorem rline_ok {w : World} {B g : Nat} {vr : Value} {cs : List (List UInt8)} (h : RIx w B g vr cs) (hcs : Cps cs) (hfew : cs.length ≤ 1099511627776) (i : Int) : Calls Tryd.prog 17 #[.pointer (some ⟨g, 0, none⟩), .int .i64 i] w fun r w' => r = .returned (lineE cs i) ∧ Below w.heap.size w w' := by
  have K := hide (bounds_ok h hfew i)
  have HI := hide h
  clear h
  by_cases hi : 0 ≤ i ∧ i < ((sts cs).length : Int)
  · obtain ⟨k, rfl⟩ : ∃ k : Nat, i = (k : Int) := ⟨i.toNat, by omega⟩
    have hk : k < (sts cs).length := by omega
    rw [bndE_in hk] at K
    rw [line_at hk]
    have hel := end_le cs k
    have hst := st_end cs hk
    rw [show (sts cs).getD k 0 = stN cs k from rfl] at hst
    obtain ⟨f, hf⟩ : ∃ z, stN cs k = z := ⟨_, rfl⟩
    obtain ⟨e, he⟩ : ∃ z, endL cs k = z := ⟨_, rfl⟩
    rw [hf, he] at K hst
    rw [he] at hel
    rw [hf, he]
    have hsz := sub_size hcs f e
    clear hf he hi hk
    go_enter Tryd.func17, Tryd.ntmps17
    go_wp2_with fail
    refine Calls.mono (unhide K) ?_
    rintro r w1 ⟨rfl, b1⟩
    obtain ⟨ar, cr, rfl, hcell, hncr, hcm⟩ := ((unhide HI).call b1).one
    have HO := hide ((unhide HI).call b1).r
    have B1 := hide b1
    clear b1 K HI
    obtain ⟨n, hn⟩ : ∃ n, cs.length = n := ⟨_, rfl⟩
    have HN := hide hn
    rw [hn] at HO hcell hfew hncr hel
    have f0 : (0 : Int) ≤ (f : Int) := by omega
    have fe : (f : Int) ≤ (e : Int) := by omega
    have ec : (e : Int) ≤ (cr : Int) := by omega
    obtain ⟨d, hd⟩ : ∃ d, e = f + d := ⟨e - f, by omega⟩
    subst hd
    rw [show f + d - f = d by omega] at hsz
    have HSZ := hide hsz
    obtain ⟨a1, ha1⟩ : ∃ a1, (if cr = f then ar else ar.map (fun x => x.add f)) = a1 := ⟨_, rfl⟩
    clear hn hst hsz
    go_wp2_with fail
    have HA1 := hide ha1
    clear ha1
    rw [Nat.add_sub_cancel_left]
    go_loopw [9, 29] (fun sv i wr => ∃ (q : Nat), q ≤ d ∧ i = .int .i64 (q : Int) ∧ sv = .string (tb (sub cs f (f + q))) ∧ w1 = wr) (fun _ i _ => ((d : Int) - intOf i).toNat)
    case atStart => exact ⟨0, by omega, by simp, by rw [Nat.add_zero, sub_zero], rfl⟩
    case round =>
      obtain ⟨q, hq, rfl, rfl, rfl⟩ := hrel
      by_cases c1 : (q : Int) < (d : Int)
      · obtain ⟨x, hx⟩ : ∃ x, cs[f + q]? = some x := ⟨_, List.getElem?_eq_getElem (by rw [unhide HN]; omega)⟩
        obtain ⟨gr, cg, e, hce, _, hcc, _⟩ := own_rd (unhide HO) (rnv_at hx)
        injection e with e1 _ e3
        subst e1 e3
        have ha2 : (some ⟨gr, f, none⟩ : Option Addr) = a1 := by rw [← unhide HA1, if_neg (by omega)]; simp [Addr.add]
        subst ha2
        have HSN := hide (sub_next hcs hx)
        obtain ⟨y, hy⟩ : ∃ y : Int, (rn x : Int) = y := ⟨_, rfl⟩
        rw [hy] at hce HSN
        have k0 : (0 : Int) ≤ (q : Int) := by omega
        have hs1 := sub_size hcs f (f + q + 1)
        rw [unhide HSN, show f + q + 1 - f = q + 1 by omega] at hs1
        obtain ⟨S, hS⟩ : ∃ z, tb (sub cs f (f + q)) = z := ⟨_, rfl⟩
        obtain ⟨T, hT⟩ : ∃ z, Utf8.encode y = z := ⟨_, rfl⟩
        have hap : (S ++ T).size = S.size + T.size := by simp
        rw [hS] at HSN hs1 ⊢
        rw [hT] at HSN hs1
        rw [hap] at hs1
        have hcv : ∀ W, (convert 21 9 (.int .i32 y)).run Tryd.prog W = .ok (.string T) W := fun W => by rw [← hT]; rfl
        have hbig : ¬ (9223372036854775807 < S.size + T.size) := by omega
        have HR : Hid (tb (sub cs f (f + (q + 1))) = S ++ T) := hide (unhide HSN)
        clear hx hy hS hT hap hs1 HSN
        go_wp2_with fail
        exact ⟨⟨q + 1, by omega, by simp, by rw [unhide HR], by first | trivial | rfl⟩, by simp [intOf]; omega⟩
      · obtain rfl : d = q := by omega
        go_wp2_with fail
        go_ret2
        exact ⟨rfl, unhide B1⟩
  · have hv : lineE cs i = .tuple #[.string ⟨#[]⟩, .int .i64 1] := by unfold lineE; rw [if_neg hi]
    rw [hv]
    rw [bndE_out hi] at K
    clear hv hi
    go_enter Tryd.func17, Tryd.ntmps17
    go_wp2_with fail
    refine Calls.mono (unhide K) ?_
    rintro r w1 ⟨rfl, b1⟩
    have B1 := hide b1
    clear b1
    go_wp2_with fail
    go_ret2
    exact ⟨rfl, unhide B1⟩
end Go.Proofs.YtdnbhomjfgpcfaaDoor
