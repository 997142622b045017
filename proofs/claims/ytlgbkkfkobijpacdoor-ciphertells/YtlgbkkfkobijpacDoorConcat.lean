/- Bytes concatenated. -/
import Derived.Test.YtlgbkkfkobijpacDoorKeyed
import Derived.Maps.AppendAt
import Derived.Deep.AppendLies
import Derived.Lib.AppendZeros
namespace Go.Proofs.YtlgbkkfkobijpacDoor
set_option linter.unusedVariables false
set_option linter.unusedSimpArgs false
open Go.ChangeShapes Go.WideShapes Go.ChangeAt Go.RowKit Go.Joins

theorem run_append_none {P : Program} (w : World) (t ty e : TypeId) (i : TypeInfo) (ht : P.underlying t = some (.slice e)) (hi : P.info? e = some i) (base : Option Addr) (sLen sCap c : Nat) (hle : sLen ≤ sCap) :
    (Builtin.append_ #[t, t] ty #[.slice base sLen sCap, .slice none 0 c]).run P w = .ok (.slice base sLen sCap) w := by
  cases base <;> simp [Builtin.append_, run_underlying ht, sizeOf, typeInfo, hi, Builtin.lenOf, Builtin.firstCells, loadCells, loadCellsFrom, hle, storeCells]

theorem wpList_append_src {P : Program} (w : World) {ops : Array Oper} {rest : List Oper} {o : Oper} {a : Act} {Q : Exit → Act → World → Prop} (hgd : o.guard = none) (s x : Operand) (t : TypeId)
    (ho : o.op = .call { callee := .builtin .append, args := #[s, x], argTypes := #[t, t] })
    (base : Nat) (e : TypeId) (i : TypeInfo) (z : Value) (size bytes : Nat) (ht : P.underlying t = some (.slice e)) (hi : P.info? e = some i) (hz : i.zero = some z)
    (hsize : i.size = size) (hby : i.bytes = bytes) (hzs : z.cells.size = size) (hsz : 0 < size)
    (v : Value) (n : Nat) (xs : List Value) (hs : a.eval s = v) (hown : w.ownsRow base e size v n xs)
    (ad : Option Addr) (m c : Nat) (news : List Value) (hx : a.eval x = .slice ad m c) (hl : news.length = m * size) (hnone : ad = none → m = 0) (hnews : ∀ b, ad = some b → ∀ j u, news[j]? = some u → w.cell? (b.add j) = some u) (h1 : ∀ u ∈ news, u.oneCell' = true)
    (h63 : n + m ≤ maxLen) (hbytes : (n + m) * bytes ≤ 140737488355328) (hbase : base ≤ w.heap.size)
    (h : ∀ ad' cap w', w'.ownsRow base e size (.slice ad' (n + m) cap) (n + m) (xs ++ news) → w.grownBy w' v.ownBlock → wpList P ops Q rest (a.put o.dst (.slice ad' (n + m) cap)) w') :
    wpList P ops Q (o :: rest) a w := by
  refine wpList_plain hgd fun K hK => ?_
  obtain ⟨ad', cap, w', hr, h2, h3⟩ : ∃ ad' cap w', (Builtin.append_ #[t, t] o.type #[v, .slice ad m c]).run P w = .ok (.slice ad' (n + m) cap) w' ∧ w'.ownsRow base e size (.slice ad' (n + m) cap) (n + m) (xs ++ news) ∧ w.grownBy w' v.ownBlock := by
    cases ad with
    | none =>
      have hm := hnone rfl
      subst hm
      have hn0 : news = [] := List.eq_nil_of_length_eq_zero (by simpa using hl)
      subst hn0
      obtain ⟨b, cap, hv, hle⟩ : ∃ b cap, v = .slice b n cap ∧ n ≤ cap := by
        rcases hown.2 with ⟨rfl, rfl⟩ | ⟨g, cap, cur, rfl, _, _, hle, _⟩
        · exact ⟨none, 0, rfl, Nat.le_refl _⟩
        · exact ⟨_, cap, rfl, hle⟩
      subst hv
      refine ⟨b, cap, w, run_append_none w t o.type e i ht hi b n cap c hle, ?_, ⟨rfl, rfl, rfl, Nat.le_refl _, fun _ _ _ => rfl⟩⟩
      simpa using hown
    | some b =>
      obtain ⟨v', w', hr, h2, h3, _, _⟩ := run_append_own_at (P := P) w base t o.type e i z size bytes ht hi hz hsize hby hzs hsz v n xs hown b m c news hl (hnews b rfl) h1 h63 hbytes hbase
      obtain ⟨ad', cap, rfl⟩ : ∃ ad' cap, v' = .slice ad' (n + m) cap := by
        rcases h2.2 with ⟨rfl, h0⟩ | ⟨g, cap, cur, rfl, _⟩
        · exact ⟨none, 0, by rw [h0]⟩
        · exact ⟨_, cap, rfl⟩
      exact ⟨ad', cap, w', hr, h2, h3⟩
  unfold Oper.wp execOp
  simp only [ho, resolve, invoke, builtin, Sem.run_bind, Sem.run_pure, Result.andThen_ok, List.map_toArray, List.map_cons, List.map_nil, hs, hx, hr]
  exact hK _ _ (h ad' cap w' h2 h3)

set_option maxHeartbeats 1000000 in
theorem grow_any (n : Nat) (w : World) (hn : n ≤ 1000000000) :
    Calls Tryd.prog 21 #[.slice none 0 0, .int .i64 (n : Int)] w fun e w' => ∃ a cap, e = .returned (.slice a 0 cap) ∧ w'.ownsRow w.heap.size 5 1 (.slice a 0 cap) 0 [] ∧ Below w.heap.size w w' := by
  obtain ⟨i0, hi, hz0, hz1, hz2⟩ := info_parts info5
  by_cases h0 : n = 0
  · subst h0
    go_enter Tryd.func21, Tryd.ntmps21
    go_wp2
    go_ret
    exact ⟨none, 0, rfl, World.ownsRow_nil _ _ _ _, Below.refl _ _⟩
  · have hpos : (0 : Int) < (n : Int) := by omega
    have hr := fun ty => Lib.run_append_nil_zeros (P := Tryd.prog) w 22 3 ty 5 i0 (.int .u8 0) .i64 .i64 Tryd.underlying22 Tryd.underlying3 hi hz0 n (by omega) (by omega) (by omega) (by rw [hz2]; omega)
    have hcap := grownCap_ge w n 0 5
    have hcm : grownCap w n 0 5 ≤ maxLen := grownCap_le_maxLen w n 0 5 (by unfold maxLen; omega)
    generalize hc : grownCap w n 0 5 = c at *
    have HR := hide hr
    clear hr hc
    have hlen : (Builtin.zeroCells (Value.int IntKind.u8 0).cells n ++ Builtin.zeroCells (Value.int IntKind.u8 0).cells (c - n)).size = c := by
      simp only [Array.size_append, size_zeroCells]
      simp [Value.cells]
      omega
    generalize hzz : Builtin.zeroCells (Value.int IntKind.u8 0).cells n ++ Builtin.zeroCells (Value.int IntKind.u8 0).cells (c - n) = zz at *
    have HLEN := hide hlen
    clear hlen hzz
    go_enter Tryd.func21, Tryd.ntmps21
    go_wp2_with (at_builtin; refine Lib.wpList_append_run _ rfl _ _ _ _ rfl _ _ rfl rfl _ _ (unhide HR _) ?_)
    go_ret
    refine ⟨some ⟨w.heap.size, 0, none⟩, c, rfl, ?_, ?_⟩
    · have q := World.ownsRow_made (base := w.heap.size) (e := 5) (size := 1) w.drew zz c (Nat.le_refl _) hcm (by rw [unhide HLEN]; omega)
      exact q
    · exact ((Below.refl _ _).drew).alloc (Nat.le_refl _) _

theorem byt_src {w : World} {a : Option Addr} {n cap : Nat} {l : List Nat} (h : Byt w (.slice a n cap) l) (hn : l.length = n) : (a = none → n = 0) ∧ ∀ b, a = some b → ∀ j u, (bv l)[j]? = some u → w.cell? (b.add j) = some u := by
  rcases h with ⟨e, rfl⟩ | ⟨ad, cap', e, h1, h2, h3⟩
  · injection e with e1 e2 e3
    exact ⟨(fun _ => e2), (fun b hb => by rw [e1] at hb; cases hb)⟩
  · injection e with e1 e2 e3
    subst e1
    refine ⟨(fun h => nomatch h), ?_⟩
    intro b hb
    injection hb with hb
    subst hb
    exact Byt.news h3


theorem flat_step {P : List (Value × List Nat)} {k : Nat} {u : Value} {l : List Nat} (h : P[k]? = some (u, l)) : flat (P.take (k + 1)) = flat (P.take k) ++ l := by
  have hk : k < P.length := (List.getElem?_eq_some_iff.1 h).1
  rw [List.take_succ_eq_append_getElem hk, flat, List.map_append, List.flatten_append]
  have : P[k] = (u, l) := by rw [List.getElem?_eq_getElem hk] at h; exact Option.some.inj h
  simp [flat, this]
theorem flat_le (P : List (Value × List Nat)) (k : Nat) : (flat (P.take k)).length ≤ (flat P).length := by
  have : flat P = flat (P.take k) ++ flat (P.drop k) := by
    rw [flat, flat, flat, ← List.flatten_append, ← List.map_append, List.take_append_drop]
  rw [this, List.length_append]; omega

set_option maxRecDepth 100000 in
set_option maxHeartbeats 4000000 in
theorem concat_any (P : List (Value × List Nat)) (v : Value) (w : World) (hv : LL w v P) (hbig : (flat P).length ≤ 1000000000) :
    Calls Tryd.prog 13 #[v] w fun e w' => ∃ v', e = .returned v' ∧ w'.ownsRow w.heap.size 5 1 v' (flat P).length (bv (flat P)) ∧ Below w.heap.size w w' := by
  obtain ⟨i0, hi, hz0, hz1, hz2⟩ := info_parts info5
  have HV := hide hv
  obtain ⟨a, cap, rfl, hcap, _⟩ := hv
  obtain ⟨N, hN⟩ : ∃ N, P.length = N := ⟨_, rfl⟩
  rw [hN]
  have HNN := hide hN
  have hNm : N ≤ 9223372036854775807 := by have := hcap.1; have := hcap.2; unfold maxLen at this; omega
  clear hcap hN
  go_enter Tryd.func13, Tryd.ntmps13
  go_wp2_with fail
  go_loopw [3, 11] (fun s i wr => w = wr ∧ ∃ (n k : Nat), k ≤ N ∧ n ≤ 1000000000 ∧ s = .int .i64 (n : Int) ∧ i = .int .i64 (k : Int) ∧ Hid (n = (flat (P.take k)).length)) (fun _ i _ => (N - intOf i).toNat)
  case atStart => exact ⟨rfl, 0, 0, by omega, by omega, rfl, rfl, rfl⟩
  case round =>
    obtain ⟨rfl, n, k, hk, hn, rfl, rfl, HI⟩ := hrel
    rename World => w
    by_cases hlt : k < N
    · have hkN : (k : Int) < (N : Int) := by omega
      have hkP : k < P.length := by rw [unhide HNN]; exact hlt
      obtain ⟨⟨u, l⟩, hul⟩ : ∃ x, P[k]? = some x := ⟨_, List.getElem?_eq_getElem hkP⟩
      obtain ⟨a', cap', hav, _, hq⟩ := unhide HV
      obtain ⟨rfl, _, rfl⟩ : a = a' ∧ _ ∧ cap = cap' := by injection hav with h1 h2 h3; exact ⟨h1, h2, h3⟩
      obtain ⟨⟨b, rfl, hc⟩, hby⟩ := hq k u l hul
      obtain ⟨au, cu, rfl⟩ := byt_shape hby
      obtain ⟨L, hL⟩ : ∃ L, l.length = L := ⟨_, rfl⟩
      have eT := flat_step hul
      have hle := flat_le P (k + 1)
      have HI2 : Hid (n + L = (flat (P.take (k + 1))).length) := hide (by rw [eT, List.length_append, ← unhide HI, hL])
      have hnL : n + L ≤ 1000000000 := by have := unhide HI2; omega
      rw [hL] at hc
      have hnn : ¬ ((n : Int) + (L : Int)) < 0 := by omega
      clear hby hul hq eT hL hle HV hkP hav
      have HLT := hide hlt
      go_wp2_with fail
      refine ⟨⟨trivial, n + L, k + 1, by have := unhide HLT; omega, hnL, by go_num, by go_num, HI2⟩, by have := unhide HLT; simp [intOf]; omega⟩
    · have hkN : ¬ (k : Int) < (N : Int) := by omega
      have hP : P.take k = P := List.take_of_length_le (by rw [unhide HNN]; omega)
      rw [hP] at HI
      have KG := hide (grow_any n w hn)
      clear hP hlt
      go_wp2_with fail
      refine Calls.mono (unhide KG) ?_
      rintro e w1 ⟨a2, cap2, rfl, ho, hb⟩
      have HO := hide ho
      have HB := hide hb
      clear ho hb KG
      go_wp2_with fail
      go_loopw [6, 27] (fun v i wr => ∃ (k m : Nat), k ≤ N ∧ i = .int .i64 (k : Int) ∧ (∃ a' c', v = .slice a' m c') ∧ Hid (m = (flat (P.take k)).length ∧ wr.ownsRow w.heap.size 5 1 v m (bv (flat (P.take k))) ∧ Below w.heap.size w wr)) (fun _ i _ => (N - intOf i).toNat)
      case atStart => exact ⟨0, 0, by omega, rfl, ⟨_, _, rfl⟩, rfl, unhide HO, unhide HB⟩
      case round =>
        obtain ⟨k2, m, hk2, rfl, ⟨a', c', rfl⟩, HC⟩ := hrel
        by_cases hlt2 : k2 < N
        · obtain ⟨x1, x2, x3⟩ := unhide HC
          have hkN2 : (k2 : Int) < (N : Int) := by omega
          have hkP : k2 < P.length := by rw [unhide HNN]; exact hlt2
          obtain ⟨⟨u, l⟩, hul⟩ : ∃ x, P[k2]? = some x := ⟨_, List.getElem?_eq_getElem hkP⟩
          obtain ⟨a3, cap3, hav, _, hq⟩ := (unhide HV).call x3
          obtain ⟨rfl, _, rfl⟩ : a = a3 ∧ _ ∧ cap = cap3 := by injection hav with h1 h2 h3; exact ⟨h1, h2, h3⟩
          obtain ⟨⟨b, rfl, hc⟩, hby⟩ := hq k2 u l hul
          obtain ⟨au, cu, rfl⟩ := byt_shape hby
          obtain ⟨L, hL⟩ : ∃ L, l.length = L := ⟨_, rfl⟩
          rw [hL] at hc hby
          have HS := hide (byt_src hby hL)
          have HLL : Hid ((bv l).length = L * 1) := hide (by rw [bv_len, hL]; omega)
          have eT := flat_step hul
          have hle := flat_le P (k2 + 1)
          have HI2 : Hid (m + L = (flat (P.take (k2 + 1))).length) := hide (by rw [eT, List.length_append, ← x1, hL])
          have hmL : m + L ≤ 1000000000 := by have := unhide HI2; omega
          have HET := hide eT
          have HX3 := hide x3
          have hs := x3.size
          have ho := x2
          clear hby hul hq eT hL hle hkP hav x1 x2 x3 HC HO HB
          have HLT := hide hlt2
          go_wp2_with (at_builtin; refine wpList_append_src _ rfl _ _ 22 rfl w.heap.size 5 i0 (.int .u8 0) 1 1 Tryd.underlying22 hi hz0 hz1 hz2 rfl (by decide) _ _ _ rfl ho au L cu (bv l) rfl (unhide HLL) (unhide HS).1 (unhide HS).2 (bv_one l) ?c3 ?c4 hs ?_)
          case c3 => unfold maxLen; omega
          case c4 => omega
          intro a5 c5 w5 ho5 hg5
          rw [← bv_append, ← unhide HET] at ho5
          have HF : Hid (m + L = (flat (P.take (k2 + 1))).length ∧ w5.ownsRow w.heap.size 5 1 (.slice a5 (m + L) c5) (m + L) (bv (flat (P.take (k2 + 1)))) ∧ Below w.heap.size w w5) := hide ⟨unhide HI2, ho5, (unhide HX3).grown hg5 hs (fun k hk => (ho.lt k hk).1)⟩
          clear ho5 hg5 ho
          go_wp2_with fail
          go_roundw
          case rel => exact ⟨k2 + 1, m + L, by have := unhide HLT; omega, by go_num, ⟨_, _, rfl⟩, HF⟩
          case measure => have := unhide HLT; simp [intOf]; omega
        · have hkN2 : ¬ (k2 : Int) < (N : Int) := by omega
          have hP2 : P.take k2 = P := List.take_of_length_le (by rw [unhide HNN]; omega)
          rw [hP2] at HC
          clear hP2 hlt2
          go_wp2_with fail
          go_ret
          obtain ⟨x1, x2, x3⟩ := unhide HC
          exact ⟨_, rfl, by rw [← x1]; exact x2, x3⟩
end Go.Proofs.YtlgbkkfkobijpacDoor
