/- Frames that are the same; a clone of parcels. -/
import Derived.Test.YtmkpphkdaiienaaCEq
import Derived.Test.YtmkpphkdaiienaaCPm
namespace Go.Proofs.Ytmkpphkdaiienaa
set_option linter.unusedVariables false
set_option linter.unusedSimpArgs false
open Go.ChangeShapes Go.WideShapes Go.ChangeAt Go.RowKit Go.Joins Go.Deep

set_option maxRecDepth 100000 in
set_option maxHeartbeats 4000000 in
theorem samef_any (c q a : Int) (v u : Value) (l : List Nat) (w : World) (h1 : Byt w v l) (h2 : Byt w u l) (h256 : ∀ y ∈ l, y < 256) :
    Calls Try.prog 25 #[.agg #[.int .i64 c, .int .i64 q, .int .i64 a, v], .agg #[.int .i64 c, .int .i64 q, .int .i64 a, u]] w fun r w' => r = .returned (.bool true) ∧ Below w.heap.size w w' := by
  obtain ⟨av, ac, hv⟩ := byt_shape h1
  obtain ⟨bv, bc, hu⟩ := byt_shape h2
  subst hv hu
  have b1 : Below w.heap.size w (w.alloc (.cells #[.int .i64 c, .int .i64 q, .int .i64 a, .slice av l.length ac] 34)) := (Below.refl _ _).alloc (Nat.le_refl _) _
  have b2 : Below w.heap.size w ((w.alloc (.cells #[.int .i64 c, .int .i64 q, .int .i64 a, .slice av l.length ac] 34)).alloc (.cells #[.int .i64 c, .int .i64 q, .int .i64 a, .slice bv l.length bc] 34)) := b1.alloc b1.size _
  have k1 := byt_convert (h1.call b2) h256
  have k2 := byt_convert (h2.call b2) h256
  have HB := hide b2
  clear h1 h2 b1 b2
  go_enter Try.func25, Try.ntmps25
  go_wp2_with fail
  go_ret
  exact ⟨by simp, unhide HB⟩
theorem fkey_eq {f g : Fm} (h : f.key = g.key) : f.conn = g.conn ∧ f.seq = g.seq ∧ f.ack = g.ack ∧ f.body = g.body := by
  unfold Fm.key at h
  simp only [Prod.mk.injEq] at h
  exact h
set_option maxRecDepth 100000 in
set_option maxHeartbeats 4000000 in
theorem feqf_same (B : Nat) (v1 v2 : Value) (n : Nat) (L1 L2 : List Fm) (w : World) (h1 : w.ownsRow B 34 4 v1 n (fcs L1)) (h2 : w.ownsRow B 34 4 v2 n (fcs L2)) (hn1 : L1.length = n) (hn2 : L2.length = n) (o1 : ∀ f ∈ L1, Own w f.v f.body) (o2 : ∀ f ∈ L2, Own w f.v f.body) (he : L1.map Fm.key = L2.map Fm.key) (h256 : ∀ f ∈ L1, ∀ y ∈ f.body, y < 256) (hn : n ≤ 1000000) :
    Calls Try.prog 24 #[v1, v2, .func (.func 25) #[] #[]] w fun r w' => r = .returned (.bool true) ∧ Below w.heap.size w w' := by
  obtain ⟨a1, c1, e1⟩ := own_one h1
  obtain ⟨a2, c2, e2⟩ := own_one h2
  subst e1 e2
  rw [← hn1] at h1
  rw [← hn2] at h2
  have H1 := hide h1
  have H2 := hide h2
  have HN1 := hide hn1
  have HN2 := hide hn2
  have O1 := hide o1
  have O2 := hide o2
  have HE := hide he
  have H256 := hide h256
  clear h1 h2 o1 o2 he h256 hn1 hn2
  rw [unhide HN1] at H1
  rw [unhide HN2] at H2
  go_enter Try.func24, Try.ntmps24
  go_wp2_with fail
  go_loopw [17] (fun i wr => ∃ k : Nat, k ≤ n ∧ i = .int .i64 (k : Int) ∧ Hid (Below w.heap.size w wr)) (fun i _ => n - (intOf i).toNat)
  case atStart => exact ⟨0, by omega, rfl, hide (Below.refl _ _)⟩
  case round =>
    obtain ⟨k, hk, rfl, HB⟩ := hrel
    by_cases g1 : k < n
    · have i1 : (k : Int) < (n : Int) := by omega
      have i0 : (0 : Int) ≤ (k : Int) := by omega
      obtain ⟨f, e1⟩ : ∃ x, L1[k]? = some x := ⟨_, List.getElem?_eq_getElem (by rw [unhide HN1]; exact g1)⟩
      obtain ⟨g, e2⟩ : ∃ x, L2[k]? = some x := ⟨_, List.getElem?_eq_getElem (by rw [unhide HN2]; exact g1)⟩
      have hs : f.key = g.key := by
        have := congrArg (·[k]?) (unhide HE)
        simp only [List.getElem?_map, e1, e2, Option.map_some, Option.some.injEq] at this
        exact this
      obtain ⟨s1, s2, s3, s4⟩ := fkey_eq hs
      have r1 := own_call (unhide H1) (unhide HB)
      have r2 := own_call (unhide H2) (unhide HB)
      have p1 := own_call (unhide O1 f (List.mem_of_getElem? e1)) (unhide HB)
      have p2 := own_call (unhide O2 g (List.mem_of_getElem? e2)) (unhide HB)
      rw [← s4] at p2
      obtain ⟨av, ac, hav⟩ := own_one p1
      obtain ⟨bv, bc, hbv⟩ := own_one p2
      rw [← unhide HN1] at r1
      rw [← unhide HN2] at r2
      obtain ⟨ga, rfl, -, -, -, -, hx1⟩ := fcell r1 (by rw [unhide HN1]; omega)
      obtain ⟨gb, rfl, -, -, -, -, hx2⟩ := fcell r2 (by rw [unhide HN2]; omega)
      have q0 : wr.cell? ⟨ga, k * 4, none⟩ = some (.int .i64 f.conn) := hx1 k f e1 0 (by omega)
      have q1 : wr.cell? ⟨ga, k * 4 + 1, none⟩ = some (.int .i64 f.seq) := hx1 k f e1 1 (by omega)
      have q2 : wr.cell? ⟨ga, k * 4 + 2, none⟩ = some (.int .i64 f.ack) := hx1 k f e1 2 (by omega)
      have q3 : wr.cell? ⟨ga, k * 4 + 3, none⟩ = some (.slice av f.body.length ac) := by rw [← hav]; exact hx1 k f e1 3 (by omega)
      have b1 : Below wr.heap.size wr (wr.alloc (.cells #[.int .i64 f.conn, .int .i64 f.seq, .int .i64 f.ack, .slice av f.body.length ac] 34)) := (Below.refl _ _).alloc (Nat.le_refl _) _
      have b2 : Below wr.heap.size wr ((wr.alloc (.cells #[.int .i64 f.conn, .int .i64 f.seq, .int .i64 f.ack, .slice av f.body.length ac] 34)).alloc (.cells #[.int .i64 f.conn, .int .i64 f.seq, .int .i64 f.ack, .slice bv f.body.length bc] 34)) := b1.alloc b1.size _
      have t0 : (wr.alloc (.cells #[.int .i64 f.conn, .int .i64 f.seq, .int .i64 f.ack, .slice av f.body.length ac] 34)).cell? ⟨gb, k * 4, none⟩ = some (.int .i64 f.conn) := by have h9 : wr.cell? ⟨gb, k * 4, none⟩ = some (.int .i64 g.conn) := hx2 k g e2 0 (by omega); rw [← s1] at h9; exact cell_keep b1 (lt_of_cell h9) h9
      have t1 : (wr.alloc (.cells #[.int .i64 f.conn, .int .i64 f.seq, .int .i64 f.ack, .slice av f.body.length ac] 34)).cell? ⟨gb, k * 4 + 1, none⟩ = some (.int .i64 f.seq) := by have h9 : wr.cell? ⟨gb, k * 4 + 1, none⟩ = some (.int .i64 g.seq) := hx2 k g e2 1 (by omega); rw [← s2] at h9; exact cell_keep b1 (lt_of_cell h9) h9
      have t2 : (wr.alloc (.cells #[.int .i64 f.conn, .int .i64 f.seq, .int .i64 f.ack, .slice av f.body.length ac] 34)).cell? ⟨gb, k * 4 + 2, none⟩ = some (.int .i64 f.ack) := by have h9 : wr.cell? ⟨gb, k * 4 + 2, none⟩ = some (.int .i64 g.ack) := hx2 k g e2 2 (by omega); rw [← s3] at h9; exact cell_keep b1 (lt_of_cell h9) h9
      have t3 : (wr.alloc (.cells #[.int .i64 f.conn, .int .i64 f.seq, .int .i64 f.ack, .slice av f.body.length ac] 34)).cell? ⟨gb, k * 4 + 3, none⟩ = some (.slice bv f.body.length bc) := by have h9 : wr.cell? ⟨gb, k * 4 + 3, none⟩ = some g.v := hx2 k g e2 3 (by omega); rw [hbv] at h9; exact cell_keep b1 (lt_of_cell h9) h9
      have HQ := hide (samef_any f.conn f.seq f.ack _ _ f.body _ ((Own.byt p1).call b2) ((Own.byt p2).call b2) (unhide H256 f (List.mem_of_getElem? e1)))
      rw [hav, hbv] at HQ
      have HB2 := hide ((unhide HB).trans (b2.mono (unhide HB).size))
      clear hx1 hx2 r1 r2 p1 p2 e1 e2 hs s1 s2 s3 s4 hav hbv b1 b2 HB
      go_wp2_with fail
      refine Calls.mono (unhide HQ) ?_
      rintro r w' ⟨rfl, hb⟩
      have HE2 := hide ((unhide HB2).trans (hb.mono (unhide HB2).size))
      clear hb HB2 HQ q0 q1 q2 q3 t0 t1 t2 t3
      go_wp2_with fail
      go_roundw
      case rel => exact ⟨k + 1, by omega, by go_num, HE2⟩
      case measure => simp [intOf]; omega
    · have i1 : ¬ (k : Int) < (n : Int) := by omega
      go_wp2_with fail
      go_ret
      exact ⟨rfl, unhide HB⟩
set_option maxHeartbeats 1000000 in
theorem pclone_any (v : Value) (n B : Nat) (xs : List Value) (w : World) (hv : w.ownsRow B 96 4 v n xs) (hl : n ≤ 1000000) (h1 : ∀ u ∈ xs, u.oneCell' = true) :
    Calls Try.prog 58 #[v] w fun e w' => ∃ v', e = .returned v' ∧ w'.ownsRow w.heap.size 96 4 v' n xs ∧ Below w.heap.size w w' := by
  obtain ⟨i0, hi, hz0, hz1, hz2⟩ := info_parts infoPar
  rcases hv.2 with ⟨rfl, rfl⟩ | ⟨g, cap, cur, rfl, hB0, hrow, hcap, hmax, hsz, htk⟩
  · have hq := fun W => Go.run_eql_slice_nil (P := Try.prog) W 73 96 none 0 0 Try.underlying73
    have hx : xs = [] := List.eq_nil_of_length_eq_zero (by have := hv.1; omega)
    subst hx
    clear hv h1
    go_enter Try.func58, Try.ntmps58
    go_wp2
    go_ret
    exact ⟨_, rfl, ⟨rfl, .inl ⟨rfl, rfl⟩⟩, Below.refl _ _⟩
  · have hq := fun W => Go.run_eql_slice_nil (P := Try.prog) W 73 96 (some ⟨g, 0, none⟩) n cap Try.underlying73
    have hB : Below w.heap.size w (w.alloc (.cells #[] 96)) := (Below.refl _ _).alloc (Nat.le_refl _) _
    have hr : RowAt w g 96 cur.toList := hrow
    have HXL := hide hv.1
    have HN : Hid (∀ j u, xs[j]? = some u → w.cell? ((⟨g, 0, none⟩ : Addr).add j) = some u) := hide (fun j u hj => by
      rw [add_plain, Nat.zero_add, hr.cell]
      have hlt : j < xs.length := (List.getElem?_eq_some_iff.1 hj).1
      rw [← hj, ← htk, List.getElem?_take_of_lt (by have := hv.1; omega)])
    have H1 := hide h1
    clear hv h1 hrow hr hsz htk hB0 hmax
    have hown : (w.alloc (.cells #[] 96)).ownsRow w.heap.size 96 4 (.slice (some ⟨w.heap.size, 0, none⟩) 0 0) 0 [] := World.ownsRow_made w #[] 0 (Nat.le_refl _) (Nat.zero_le _) rfl
    go_enter Try.func58, Try.ntmps58
    go_wp2_with (at_builtin; refine wpList_append_own _ rfl _ _ 73 rfl w.heap.size 96 i0 (.agg #[.int .i64 0, .slice none 0 0, .bool false, .int .i64 0]) 4 48 Try.underlying73 hi hz0 hz1 hz2 rfl (by decide) _ _ _ rfl hown ⟨g, 0, none⟩ n cap xs rfl ?c0 ?c1 ?c2 ?c3 ?c4 ?c5 ?_)
    case c0 => exact unhide HXL
    case c1 =>
      intro j u hj
      have := unhide HN j u hj
      exact cell_keep hB (lt_of_cell this) this
    case c2 => exact unhide H1
    case c3 => unfold maxLen; omega
    case c4 => omega
    case c5 => simp
    intro v' w2 hown' hgrow' _
    go_wp2
    go_ret
    refine ⟨_, rfl, ?_, ?_⟩
    · simpa using hown'
    · exact hB.grown hgrow' hB.size (fun k hk => by simp [Value.ownBlock] at hk; omega)
end Go.Proofs.Ytmkpphkdaiienaa
