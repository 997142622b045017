/- UndoMost. -/
import Derived.Test.YtihiengejpjbkaaDoorUSh
namespace Go.Proofs.YtihiengejpjbkaaDoor
set_option linter.unusedVariables false
set_option linter.unusedSimpArgs false
open Go.ChangeShapes Go.WideShapes Go.ChangeAt Go.RowKit Go.Joins Go.Deep

theorem mod_le (k : Int) (F : Nat) (h : F ≤ 1099511627776) : ∃ j : Nat, wrap64 ((IntKind.u64.wrap k).tmod ((F : Int) + 1)) = (j : Int) ∧ j ≤ F := by
  have h0 : 0 ≤ IntKind.u64.wrap k := wrap_u64_nonneg k
  rw [Int.tmod_eq_emod_of_nonneg h0]
  have g1 := Int.emod_nonneg (IntKind.u64.wrap k) (show (F : Int) + 1 ≠ 0 by omega)
  have g2 := Int.emod_lt_of_pos (IntKind.u64.wrap k) (show (0 : Int) < (F : Int) + 1 by omega)
  generalize IntKind.u64.wrap k % ((F : Int) + 1) = x at *
  refine ⟨x.toNat, ?_, by omega⟩
  unfold wrap64
  omega
theorem from_rep : ∀ n : Nat, At.fromN (List.replicate n .k) = n
  | 0 => rfl
  | n + 1 => by rw [List.replicate_succ, At.fromN, from_rep n]
theorem to_rep : ∀ n : Nat, At.toN (List.replicate n .k) = n
  | 0 => rfl
  | n + 1 => by rw [List.replicate_succ, At.toN, to_rep n]
def xs (k : Nat) : List (List UInt8) := List.replicate k [120]
def Dk (k : Nat) : List At := List.replicate k .k ++ [.d]
def Bk (k : Nat) : List (List At) := (((List.range k).map Dk).reverse).take 50
theorem xs_len (k : Nat) : (xs k).length = k := by simp [xs]
theorem tx_zero : Tx ⟨#[]⟩ (xs 0) := tx_ascii [] (by simp)
theorem tx_x : Tx ⟨#[120]⟩ (xs 1) := tx_ascii [120] (by decide)
theorem xs_snoc (k : Nat) : xs k ++ xs 1 = xs (k + 1) := by simp [xs, List.replicate_succ']
theorem mk_at (k : Nat) (hk : k ≤ 1000) : repO k k 0 ⟨#[120]⟩ = repL k k 0 ⟨#[120]⟩ ∧ atomsL (repL k k 0 ⟨#[120]⟩) = List.replicate k .k ++ [.p [120]] ∧ IsEd (repL k k 0 ⟨#[120]⟩) k (k + 1) ∧ (repL k k 0 ⟨#[120]⟩).length ≤ 11 := by
  have hl : ([[120]] : List (List UInt8)).length = 1 := rfl
  have q := rep_ed tx_x (n := (k : Int)) (at_ := (k : Int)) (k := 0) (by omega) (by omega) (by omega) (by omega) (by omega) (by omega) (by rw [xs_len]; omega)
  have e : atomsL (repL k k 0 ⟨#[120]⟩) = List.replicate k .k ++ [.p [120]] := by
    rw [q.2.1]
    simp [xs]
  refine ⟨?_, e, ⟨q.1, ?_, ?_, by omega, by omega⟩, q.2.2⟩
  · unfold repO
    rw [if_pos (repB_true tx_x (by omega) (by omega) (by omega) (by omega) (by omega) (by omega) (by rw [xs_len]; omega))]
  · rw [e, At.from_app, from_rep]; simp [At.fromN]
  · rw [e, At.to_app, to_rep]; simp [At.toN]
theorem inv_mk : ∀ (k : Nat), At.inv (List.replicate k .k ++ [.p [120]]) (xs k) = Dk k
  | 0 => rfl
  | k + 1 => by
    have := inv_mk k
    simp only [xs, Dk, List.replicate_succ, List.cons_append, At.inv] at this ⊢
    rw [this]
theorem can_dk : ∀ (k : Nat), At.can (Dk k) = Dk k
  | 0 => rfl
  | k + 1 => by
    have := can_dk k
    simp only [At.can, Dk, List.replicate_succ, List.cons_append, At.canG, List.map_nil, List.replicate_zero, List.nil_append] at this ⊢
    rw [this]
theorem app_dk : ∀ (k : Nat), At.app (Dk k) (xs (k + 1)) = xs k
  | 0 => rfl
  | k + 1 => by
    have := app_dk k
    simp only [xs, Dk, List.replicate_succ, List.cons_append, At.app] at this ⊢
    rw [this]
theorem from_dk (k : Nat) : At.fromN (Dk k) = k + 1 := by rw [Dk, At.from_app, from_rep]; simp [At.fromN]
theorem to_dk (k : Nat) : At.toN (Dk k) = k := by rw [Dk, At.to_app, to_rep]; simp [At.toN]
theorem bk_next (k : Nat) : (Dk k :: Bk k).take 50 = Bk (k + 1) := by
  unfold Bk
  rw [List.range_succ, List.map_append, List.reverse_append]
  simp only [List.map_cons, List.map_nil, List.reverse_cons, List.reverse_nil, List.nil_append, List.singleton_append]
  rw [List.take_succ_cons, List.take_succ_cons, List.take_take]
  rfl
theorem Bk_len (k : Nat) : (Bk k).length = min k 50 := by simp [Bk]; omega
theorem bk_at (n j : Nat) (h : j < min n 50) : (Bk n)[j]? = some (Dk (n - 1 - j)) := by
  unfold Bk
  rw [List.getElem?_take, if_pos (by omega), List.getElem?_reverse (by simp; omega)]
  rw [List.length_map, List.length_range, List.getElem?_map, List.getElem?_range (by omega)]
  rfl
theorem ats_top {P : List Pe} {x : List At} {r : List (List At)} (h : ats P = x :: r) : ∃ Q p, P = Q ++ [p] ∧ atomsL p.l = x ∧ ats Q = r := by
  rcases List.eq_nil_or_concat P with rfl | ⟨Q, p, rfl⟩
  · simp [ats] at h
  · refine ⟨Q, p, by simp, ?_, ?_⟩
    · simp [ats] at h; exact h.1
    · simp [ats] at h ⊢; exact h.2
structure Mo (w : World) (B g : Nat) (vb va : Value) (H : Hs) (k : Nat) : Prop where
  hi : Hi w B g vb va H
  n : H.n = (k : Int)
/-- so far put -/
def M1 (w W : World) (g : Nat) (sk : ByteArray) (k : Nat) : Prop := ∃ vb va H, Hi W w.heap.size g vb va H ∧ H.n = (k : Int) ∧ ats H.back = Bk k ∧ H.again = [] ∧ Tx sk (xs k) ∧ Below w.heap.size w W
/-- so far taken back -/
def M2 (w W : World) (g n : Nat) (sk : ByteArray) (j : Nat) : Prop := ∃ vb va H, Hi W w.heap.size g vb va H ∧ H.n = ((n - j : Nat) : Int) ∧ ats H.back = (Bk n).drop j ∧ H.again.length ≤ 50 ∧ Tx sk (xs (n - j)) ∧ Below w.heap.size w W
set_option maxRecDepth 100000 in
set_option maxHeartbeats 4000000 in
theorem most_law (n0 : Int) (w : World) (hT : UT w) (y0 : -9223372036854775808 ≤ n0) (y1 : n0 ≤ 9223372036854775807) : Calls Tryd.prog 8 #[.int .i64 n0] w fun r w' => r = .returned (.bool true) ∧ Below w.heap.size w w' := by
  have HU : Hid (∀ W, Below w.heap.size w W → UT W) := hide (fun W h => hT.call h)
  clear hT
  obtain ⟨n, hn, hn2⟩ := mod_le n0 69 (by omega)
  simp at hn
  go_enter Tryd.func8, Tryd.ntmps8
  go_wp2_with fail
  refine Calls.mono (begun_any ⟨#[]⟩ w (by decide) (by decide)) ?_
  intro r w1 h1
  obtain ⟨g, vb, va, rfl, hh, b1⟩ := h1.shape
  rw [show Lib.runeCount ⟨#[]⟩ = 0 from rfl] at hh
  have H1 : Hid (M1 w w1 g ⟨#[]⟩ 0) := hide ⟨vb, va, _, hh, rfl, rfl, rfl, tx_zero, b1⟩
  clear h1 hh b1
  go_wp2_with fail
  go_loopw [4, 16] (fun sv i wr => ∃ (k : Nat) (sk : ByteArray), k ≤ n ∧ i = .int .i64 (k : Int) ∧ sv = .string sk ∧ Hid (M1 w wr g sk k)) (fun _ i _ => ((n : Int) - intOf i).toNat)
  case atStart => exact ⟨0, _, by omega, by simp, by simp, H1⟩
  case round =>
    clear H1
    obtain ⟨k, sk, hk, rfl, rfl, HM⟩ := hrel
    by_cases c1 : (k : Int) < (n : Int)
    · obtain ⟨vb, va, H, hh, e1, e2, e3, hx, b1⟩ := unhide HM
      have HB := hide b1
      have HH := hide hh
      have HE := hide (And.intro e1 (And.intro e2 (And.intro e3 hx)))
      clear HM hh e1 e2 e3 hx b1
      go_wp2_with fail
      refine Calls.mono (lreplace_any (k : Int) (k : Int) 0 ⟨#[120]⟩ wr (unhide HU _ (unhide HB)) (by decide) (by omega) (by omega)) ?_
      rintro r w2 ⟨v, rfl, ov, b2⟩
      have mk := mk_at k (by omega)
      rw [mk.1] at ov
      obtain ⟨a2, c2, rfl, E2⟩ := ov.edit (ed_txt mk.2.2.1) (by have := mk.2.2.2; omega)
      have B2 := hide ((unhide HB).trans (b2.mono (unhide HB).size))
      have H2 := hide ((unhide HH).call b2)
      have HE2 := hide E2
      obtain ⟨m2, hm2⟩ : ∃ z, (repL k k 0 ⟨#[120]⟩).length = z := ⟨_, rfl⟩
      rw [hm2]
      have HM2 := hide hm2
      have HMK := hide mk
      clear ov b2 E2 hm2 HH HB
      clear mk
      go_wp2_with fail
      refine Calls.mono (mine_ok w.heap.size g m2 (k + 1) vb va _ a2 (repL k k 0 ⟨#[120]⟩) c2 sk (xs k) w2 (unhide H2) (unhide HU _ (unhide B2)) (unhide HE2) (unhide HM2) (unhide HE).2.2.2 (by rw [xs_len]; exact (unhide HMK).2.2.1) (by rw [xs_len]; exact (unhide HE).1) (by omega) (by rw [← ats_len, (unhide HE).2.1, Bk_len]; omega) (by have := unhide HM2; have := (unhide HMK).2.2.2; omega)) ?_
      intro r w3 h3
      obtain ⟨p, vb3, rfl, at3, pk3, hh3, on3⟩ := h3.shape
      rw [(unhide HMK).2.1, inv_mk, can_dk] at at3
      have H3 : Hid (∀ u : ByteArray, u.data.toList = sk.data.toList ++ [120] → M1 w w3 g u (k + 1)) := hide (fun u hu => ⟨_, _, _, hh3, rfl, by show ats (pushP H.back p) = _; rw [ats_push, at3, (unhide HE).2.1, bk_next], rfl, by rw [← xs_snoc]; exact (unhide HE).2.2.2.append tx_x hu, (unhide B2).trans (((unhide H2).low on3).mono (Nat.le_refl _))⟩)
      have hsk : ¬ 9223372036854775807 < sk.size + 1 := by rw [(unhide HE).2.2.2.size]; simp [xs]; omega
      clear h3 at3 pk3 hh3 on3
      go_wp2_with fail
      exact ⟨⟨k + 1, _, by omega, by simp, rfl, hide (unhide H3 _ (by simp))⟩, by simp [intOf]; omega⟩
    · obtain rfl : n = k := by omega
      clear hk
      obtain ⟨vb, va, H, hh, e1, e2, e3, hx, b1⟩ := unhide HM
      have h20 : Hid (∀ W, Hi W w.heap.size g vb va H → Below w.heap.size w W → M2 w W g n sk 0) := hide (fun W hW bW => ⟨vb, va, H, hW, e1, e2, by rw [e3]; decide, hx, bW⟩)
      have q2 := hh.row.cell 2
      have q3 := hh.row.cell 3
      simp only [List.getElem?_cons_zero, List.getElem?_cons_succ] at q2 q3
      obtain ⟨ab, cb, hvb⟩ := pl_one hh.ob
      obtain ⟨aa, ca, hva⟩ := pl_one hh.oa
      obtain ⟨bb, hbb⟩ : ∃ z, min n 50 = z := ⟨_, rfl⟩
      have hlb : H.back.length = bb := by rw [← ats_len, e2, Bk_len, hbb]
      rw [hvb, hlb] at q2
      rw [hva, show H.again.length = 0 by rw [e3]; rfl] at q3
      have K := hide (len_ok g aa ab bb 0 cb ca wr (hh.row.cell 0) q2 q3)
      have HB := hide b1
      have HH := hide hh
      clear HM hh e1 e2 e3 hx b1 q2 q3 hvb hva hlb
      go_wp2_with fail
      refine Calls.mono (unhide K) ?_
      rintro r w2 ⟨rfl, b2⟩
      have H2 : Hid (M2 w w2 g n sk 0) := hide (unhide h20 w2 ((unhide HH).call b2) ((unhide HB).trans (b2.mono (unhide HB).size)))
      clear b2 K HB HH h20
      have hmin : min (n : Int) 50 = (bb : Int) := by omega
      go_wp2_with fail
      go_loopw [4, 43] (fun sv i wr => ∃ (j : Nat) (sk : ByteArray), j ≤ bb ∧ i = .int .i64 (j : Int) ∧ sv = .string sk ∧ Hid (M2 w wr g n sk j)) (fun _ i _ => ((bb : Int) - intOf i).toNat)
      case atStart => exact ⟨0, _, by omega, by simp, by simp, H2⟩
      case round =>
        clear H2
        obtain ⟨j, sk, hj, rfl, rfl, HM⟩ := hrel
        by_cases c2 : (j : Int) < (bb : Int)
        · obtain ⟨vb, va, H, hh, e1, e2, e3, hx, b1⟩ := unhide HM
          have hba := bk_at n j (by omega)
          have e4 : (Bk n).drop j = Dk (n - 1 - j) :: (Bk n).drop (j + 1) := by
            obtain ⟨h9, h8⟩ := List.getElem?_eq_some_iff.1 hba
            rw [List.drop_eq_getElem_cons h9, h8]
          rw [e4] at e2
          obtain ⟨Q, p, hQ, hp, hq⟩ := ats_top e2
          have hpk := hh.eb p (by rw [hQ]; exact List.mem_append.2 (.inr (by simp)))
          have hnj : n - j = (n - 1 - j) + 1 := by omega
          obtain ⟨m, hm⟩ : ∃ z, n - 1 - j = z := ⟨_, rfl⟩
          rw [hm] at hnj hp
          rw [hnj] at hx e1
          have hed : IsEd p.l (m + 1) m := ⟨hpk.nf, by rw [hp, from_dk], by rw [hp, to_dk], by omega, by omega⟩
          have HED := hide hed
          have HP := hide hp
          have HX := hide hx
          have HQ := hide hq
          have HB := hide b1
          have HH := hide hh
          have KU := hide (undo_ok w.heap.size g m vb va H Q p sk (xs (m + 1)) wr hh (fun W hW => unhide HU W (b1.trans hW)) hQ (by have h7 := congrArg List.length hq; rw [ats_len, List.length_drop, Bk_len] at h7; omega) e3 hx (by rw [xs_len]; exact hed) (by rw [xs_len]; exact e1) (by rw [xs_len]; omega) (by omega))
          have HA := hide e3
          clear HM hh e1 e2 e3 e4 hx b1 hba hQ hp hq hpk hed
          go_wp2_with fail
          refine Calls.mono (unhide KU) ?_
          intro r w3 h3
          obtain ⟨q6, vb6, va6, rfl, at6, pq6, pp6, hh6, on6⟩ := h3.shape
          have B6 := hide ((unhide HB).trans ((unhide HH).low on6))
          have H6 := hide hh6
          obtain ⟨u6, d6, hu6, Eu6⟩ := pp6.edit (unhide HED) (by omega)
          obtain ⟨n6, hn6⟩ : ∃ z, p.l.length = z := ⟨_, rfl⟩
          rw [hn6] at hu6
          have HN6 := hide hn6
          have HE6 := hide Eu6
          rw [hu6]
          clear h3 at6 pq6 pp6 hh6 on6 hu6 Eu6 hn6 KU HB HH
          go_wp2_with fail
          refine Calls.mono (applied_any u6 p.l d6 n6 m sk (xs (m + 1)) w3 (unhide HU _ (unhide B6)) (unhide HE6) (unhide HN6) (unhide HX) (by rw [xs_len]; exact unhide HED)) ?_
          rintro r w8 ⟨S8, rfl, x8, b8⟩
          rw [unhide HP, app_dk] at x8
          have hm1 : m = n - (j + 1) := by omega
          have H8 : Hid (M2 w w8 g n S8 (j + 1)) := hide ⟨_, _, _, (unhide H6).call b8, by rw [hm1], unhide HQ, by show (pushP H.again q6).length ≤ 50; rw [pushP_len]; omega, by rw [← hm1]; exact x8, (unhide B6).trans (b8.mono (unhide B6).size)⟩
          clear x8 b8 H6 B6
          go_wp2_with fail
          exact ⟨⟨j + 1, _, by omega, by simp, rfl, H8⟩, by simp [intOf]; omega⟩
        · obtain rfl : bb = j := by omega
          obtain ⟨vb, va, H, hh, e1, e2, e3, hx, b1⟩ := unhide HM
          have hsz : sk.size = n - bb := by rw [hx.size]; simp [xs]
          have hmx : (sk.size : Int) = max 0 ((n : Int) - 50) := by omega
          have HB := hide b1
          have KA := hide (awake_any wr (unhide HU _ b1))
          clear HM hh e1 e2 e3 hx b1
          obtain ⟨zz, hzz⟩ : ∃ z, sk.size = z := ⟨_, rfl⟩
          rw [hzz] at hmx hsz
          go_wp2_with fail
          refine Calls.mono (unhide KA) ?_
          rintro r w9 ⟨rfl, b9⟩
          have HB9 := hide ((unhide HB).trans (b9.mono (unhide HB).size))
          clear b9
          go_wp2_with fail
          go_ret
          exact ⟨rfl, unhide HB9⟩
end Go.Proofs.YtihiengejpjbkaaDoor
