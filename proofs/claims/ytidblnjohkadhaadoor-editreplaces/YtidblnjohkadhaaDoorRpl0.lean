/- The edit by which any stretch becomes any text: the walk. -/
import Derived.Test.YtidblnjohkadhaaDoorRrp
import Derived.Test.YtidblnjohkadhaaDoorSam
namespace Go.Proofs.YtidblnjohkadhaaDoor
set_option linter.unusedVariables false
set_option linter.unusedSimpArgs false
open Go.ChangeShapes Go.WideShapes Go.ChangeAt Go.RowKit Go.Joins Go.Deep

theorem rep_is {n at_ k : Int} {s : ByteArray} (h : repB n at_ k s = true) : (∃ t, IsEd (repL n at_ k s) n.toNat t) ∧ (repL n at_ k s).length ≤ 11 ∧ (n.toNat : Int) = n := by
  obtain ⟨cs, hcs, b1, b2, b3, b4, b5, b6, b7⟩ := repB_has h
  obtain ⟨u1, u2, u3⟩ := rep_ed hcs b1 b2 b3 b4 b5 b6 b7
  refine ⟨⟨at_.toNat + (cs.length + (n - at_ - k).toNat), u1, ?_, ?_, ?_, ?_⟩, u3, by omega⟩
  · rw [u2, At.from_app, At.from_app, At.from_app, from_rep_k, from_map, from_rep_d, from_rep_k]
    omega
  · rw [u2, At.to_app, At.to_app, At.to_app, to_rep_k, to_map, to_rep_d, to_rep_k]
    omega
  · omega
  · omega
theorem edit_nil (w : World) : Edit w none [] 0 := ⟨.inl rfl, by first | exact AtB.none _ | (unfold AtB; simp), Nat.le_refl _, by unfold maxLen; omega, (fun p hp => by cases hp), by simp⟩
set_option maxRecDepth 100000 in
set_option maxHeartbeats 4000000 in
theorem replaces_law (n at_ k : Int) (s : ByteArray) (w : World) (hT : UT w) (y0 : -9223372036854775808 ≤ n) (x0 : n ≤ 9223372036854775807) (y1 : -9223372036854775808 ≤ at_) (x1 : at_ ≤ 9223372036854775807) (y2 : -9223372036854775808 ≤ k) (x2 : k ≤ 9223372036854775807) (hs : s.size ≤ 140737488351232) :
    Calls Tryd.prog 6 #[.int .i64 n, .int .i64 at_, .int .i64 k, .string s] w fun r w' => r = .returned (.bool true) ∧ Below w.heap.size w w' := by
  have HU : Hid (∀ W, Below w.heap.size w W → UT W) := hide (fun W h => hT.call h)
  have HB1 := hide (Below.refl w.heap.size w)
  have HS := hide hs
  have HNN := hide (And.intro y0 x0)
  clear hT hs y0 x0 y1 x1 y2 x2
  by_cases hsz : 4096 < (s.size : Int)
  · go_enter Tryd.func6, Tryd.ntmps6
    go_wp2_with fail
    refine Calls.mono (awake_any _ (unhide HU _ (unhide HB1))) ?_
    rintro r wa ⟨rfl, hba⟩
    have HBa := hide ((unhide HB1).trans (hba.mono (unhide HB1).size))
    clear hba
    go_wp2_with fail
    go_ret
    exact ⟨rfl, unhide HBa⟩
  obtain ⟨ra, hra⟩ : ∃ z, repB n at_ k s = z := ⟨_, rfl⟩
  obtain ⟨rb, hrb⟩ : ∃ z, repB n 0 0 ByteArray.empty = z := ⟨_, rfl⟩
  have HRA := hide hra
  have HRB := hide hrb
  clear hra hrb
  have HC1 : Hid (∀ W, Below w.heap.size w W → Calls Tryd.prog 36 #[.int .i64 n, .int .i64 at_, .int .i64 k, .string s] W fun r w' => RepR W w' n at_ k s r) := hide (fun W hW => replace_any n at_ k s W (unhide HU W hW) (by have := unhide HS; omega) (unhide HNN).1 (unhide HNN).2)
  have HC2 : Hid (∀ W, Below w.heap.size w W → Calls Tryd.prog 37 #[.int .i64 n, .int .i64 at_, .int .i64 k, .string s] W fun r w' => RepR W w' n at_ k s r) := hide (fun W hW => rreplace_any n at_ k s W (by have := unhide HS; omega))
  have HC3 : Hid (∀ W, Below w.heap.size w W → Calls Tryd.prog 38 #[.int .i64 n] W fun r w' => RepR W w' n 0 0 ByteArray.empty r) := hide (fun W hW => same_any n W (unhide HU W hW) (unhide HNN).1 (unhide HNN).2)
  have HC4 : Hid (∀ W, Below w.heap.size w W → Calls Tryd.prog 37 #[.int .i64 n, .int .i64 0, .int .i64 0, .string { data := #[] }] W fun r w' => RepR W w' n 0 0 ByteArray.empty r) := hide (fun W hW => rreplace_any n 0 0 ByteArray.empty W (by show ByteArray.empty.size ≤ _; decide))
  cases ra with
  | false =>
    cases rb with
    | false =>
      go_enter Tryd.func6, Tryd.ntmps6
      go_wp2_with fail
      refine Calls.mono (unhide HC1 _ (unhide HB1)) ?_
      rintro r w2 ⟨h_, hb_⟩
      have HB2 := hide ((unhide HB1).trans (hb_.mono (unhide HB1).size))
      clear hb_
      rcases h_ with ⟨_, rfl⟩ | ⟨h_, _⟩
      rotate_left
      · rw [unhide HRA] at h_; cases h_
      go_wp2_with fail
      refine Calls.mono (unhide HC2 _ (unhide HB2)) ?_
      rintro r w3 ⟨h_, hb_⟩
      have HB3 := hide ((unhide HB2).trans (hb_.mono (unhide HB2).size))
      clear hb_
      rcases h_ with ⟨_, rfl⟩ | ⟨h_, _⟩
      rotate_left
      · rw [unhide HRA] at h_; cases h_
      go_wp2_with fail
      refine Calls.mono (unhide HC3 _ (unhide HB3)) ?_
      rintro r w4 ⟨h_, hb_⟩
      have HB4 := hide ((unhide HB3).trans (hb_.mono (unhide HB3).size))
      clear hb_
      rcases h_ with ⟨_, rfl⟩ | ⟨h_, _⟩
      rotate_left
      · rw [unhide HRB] at h_; cases h_
      go_wp2_with fail
      refine Calls.mono (unhide HC4 _ (unhide HB4)) ?_
      rintro r w5 ⟨h_, hb_⟩
      have HB5 := hide ((unhide HB4).trans (hb_.mono (unhide HB4).size))
      clear hb_
      rcases h_ with ⟨_, rfl⟩ | ⟨h_, _⟩
      rotate_left
      · rw [unhide HRB] at h_; cases h_
      go_wp2_with fail
      refine Calls.mono (rsame_at (w := w5) (edit_nil _) (edit_nil _) rfl rfl rfl (Below.refl w5.heap.size w5)) ?_
      rintro r w6 ⟨rfl, hb_⟩
      have HB6 := hide ((unhide HB5).trans (hb_.mono (unhide HB5).size))
      clear hb_
      go_wp2_with fail
      refine Calls.mono (rsame_at (w := w6) (edit_nil _) (edit_nil _) rfl rfl rfl (Below.refl w6.heap.size w6)) ?_
      rintro r w7 ⟨rfl, hb_⟩
      have HB7 := hide ((unhide HB6).trans (hb_.mono (unhide HB6).size))
      clear hb_
      go_wp2_with fail
      refine Calls.mono (awake_any _ (unhide HU _ (unhide HB7))) ?_
      rintro r wa ⟨rfl, hba⟩
      have HBa := hide ((unhide HB7).trans (hba.mono (unhide HB7).size))
      clear hba
      go_wp2_with fail
      go_ret
      exact ⟨rfl, unhide HBa⟩
    | true =>
      go_enter Tryd.func6, Tryd.ntmps6
      have Iq := hide (rep_is (unhide HRB))
      go_wp2_with fail
      refine Calls.mono (unhide HC1 _ (unhide HB1)) ?_
      rintro r w2 ⟨h_, hb_⟩
      have HB2 := hide ((unhide HB1).trans (hb_.mono (unhide HB1).size))
      clear hb_
      rcases h_ with ⟨_, rfl⟩ | ⟨h_, _⟩
      rotate_left
      · rw [unhide HRA] at h_; cases h_
      go_wp2_with fail
      refine Calls.mono (unhide HC2 _ (unhide HB2)) ?_
      rintro r w3 ⟨h_, hb_⟩
      have HB3 := hide ((unhide HB2).trans (hb_.mono (unhide HB2).size))
      clear hb_
      rcases h_ with ⟨_, rfl⟩ | ⟨h_, _⟩
      rotate_left
      · rw [unhide HRA] at h_; cases h_
      go_wp2_with fail
      refine Calls.mono (unhide HC3 _ (unhide HB3)) ?_
      rintro r w4 ⟨h_, hb_⟩
      have HB4 := hide ((unhide HB3).trans (hb_.mono (unhide HB3).size))
      clear hb_
      rcases h_ with ⟨h_, _⟩ | ⟨_, v, rfl, ov⟩
      · rw [unhide HRB] at h_; cases h_
      obtain ⟨x, cx, hvx, hEx⟩ := OwnP.edit ov (ed_txt (unhide Iq).1.choose_spec) (by have := (unhide Iq).2.1; omega)
      subst hvx
      have Ox4 := hide hEx
      obtain ⟨nq, hnq⟩ : ∃ z, (repL n 0 0 ByteArray.empty).length = z := ⟨_, rfl⟩
      rw [hnq]
      have Nq := hide hnq
      clear hEx hnq ov
      go_wp2_with fail
      refine Calls.mono (unhide HC4 _ (unhide HB4)) ?_
      rintro r w5 ⟨h_, hb_⟩
      have HB5 := hide ((unhide HB4).trans (hb_.mono (unhide HB4).size))
      have Ox5 := hide ((unhide Ox4).call hb_)
      clear Ox4
      clear hb_
      rcases h_ with ⟨h_, _⟩ | ⟨_, v, rfl, ov⟩
      · rw [unhide HRB] at h_; cases h_
      obtain ⟨y, cy, hvy, hEy⟩ := OwnP.edit ov (ed_txt (unhide Iq).1.choose_spec) (by have := (unhide Iq).2.1; omega)
      rw [unhide Nq] at hvy
      subst hvy
      have Oy5 := hide hEy
      clear hEy ov
      go_wp2_with fail
      refine Calls.mono (rsame_at (w := w5) (edit_nil _) (edit_nil _) rfl rfl rfl (Below.refl w5.heap.size w5)) ?_
      rintro r w6 ⟨rfl, hb_⟩
      have HB6 := hide ((unhide HB5).trans (hb_.mono (unhide HB5).size))
      have Ox6 := hide ((unhide Ox5).call hb_)
      clear Ox5
      have Oy6 := hide ((unhide Oy5).call hb_)
      clear Oy5
      clear hb_
      go_wp2_with fail
      refine Calls.mono (rsame_at (w := w6) (unhide Ox6) (unhide Oy6) rfl (unhide Nq) (unhide Nq) (Below.refl w6.heap.size w6)) ?_
      rintro r w7 ⟨rfl, hb_⟩
      have HB7 := hide ((unhide HB6).trans (hb_.mono (unhide HB6).size))
      have Ox7 := hide ((unhide Ox6).call hb_)
      clear Ox6
      have Oy7 := hide ((unhide Oy6).call hb_)
      clear Oy6
      clear hb_
      go_wp2_with fail
      refine Calls.mono (awake_any _ (unhide HU _ (unhide HB7))) ?_
      rintro r wa ⟨rfl, hba⟩
      have HBa := hide ((unhide HB7).trans (hba.mono (unhide HB7).size))
      clear hba
      go_wp2_with fail
      go_ret
      exact ⟨rfl, unhide HBa⟩
  | true =>
    cases rb with
    | false =>
      go_enter Tryd.func6, Tryd.ntmps6
      have Ip := hide (rep_is (unhide HRA))
      go_wp2_with fail
      refine Calls.mono (unhide HC1 _ (unhide HB1)) ?_
      rintro r w2 ⟨h_, hb_⟩
      have HB2 := hide ((unhide HB1).trans (hb_.mono (unhide HB1).size))
      clear hb_
      rcases h_ with ⟨h_, _⟩ | ⟨_, v, rfl, ov⟩
      · rw [unhide HRA] at h_; cases h_
      obtain ⟨e, ce, hve, hEe⟩ := OwnP.edit ov (ed_txt (unhide Ip).1.choose_spec) (by have := (unhide Ip).2.1; omega)
      subst hve
      have Oe2 := hide hEe
      obtain ⟨np, hnp⟩ : ∃ z, (repL n at_ k s).length = z := ⟨_, rfl⟩
      rw [hnp]
      have Np := hide hnp
      clear hEe hnp ov
      go_wp2_with fail
      refine Calls.mono (unhide HC2 _ (unhide HB2)) ?_
      rintro r w3 ⟨h_, hb_⟩
      have HB3 := hide ((unhide HB2).trans (hb_.mono (unhide HB2).size))
      have Oe3 := hide ((unhide Oe2).call hb_)
      clear Oe2
      clear hb_
      rcases h_ with ⟨h_, _⟩ | ⟨_, v, rfl, ov⟩
      · rw [unhide HRA] at h_; cases h_
      obtain ⟨g, cg, hvg, hEg⟩ := OwnP.edit ov (ed_txt (unhide Ip).1.choose_spec) (by have := (unhide Ip).2.1; omega)
      rw [unhide Np] at hvg
      subst hvg
      have Og3 := hide hEg
      clear hEg ov
      go_wp2_with fail
      refine Calls.mono (unhide HC3 _ (unhide HB3)) ?_
      rintro r w4 ⟨h_, hb_⟩
      have HB4 := hide ((unhide HB3).trans (hb_.mono (unhide HB3).size))
      have Oe4 := hide ((unhide Oe3).call hb_)
      clear Oe3
      have Og4 := hide ((unhide Og3).call hb_)
      clear Og3
      clear hb_
      rcases h_ with ⟨_, rfl⟩ | ⟨h_, _⟩
      rotate_left
      · rw [unhide HRB] at h_; cases h_
      go_wp2_with fail
      refine Calls.mono (unhide HC4 _ (unhide HB4)) ?_
      rintro r w5 ⟨h_, hb_⟩
      have HB5 := hide ((unhide HB4).trans (hb_.mono (unhide HB4).size))
      have Oe5 := hide ((unhide Oe4).call hb_)
      clear Oe4
      have Og5 := hide ((unhide Og4).call hb_)
      clear Og4
      clear hb_
      rcases h_ with ⟨_, rfl⟩ | ⟨h_, _⟩
      rotate_left
      · rw [unhide HRB] at h_; cases h_
      go_wp2_with fail
      refine Calls.mono (rsame_at (w := w5) (unhide Oe5) (unhide Og5) rfl (unhide Np) (unhide Np) (Below.refl w5.heap.size w5)) ?_
      rintro r w6 ⟨rfl, hb_⟩
      have HB6 := hide ((unhide HB5).trans (hb_.mono (unhide HB5).size))
      have Oe6 := hide ((unhide Oe5).call hb_)
      clear Oe5
      have Og6 := hide ((unhide Og5).call hb_)
      clear Og5
      clear hb_
      go_wp2_with fail
      refine Calls.mono (rsame_at (w := w6) (edit_nil _) (edit_nil _) rfl rfl rfl (Below.refl w6.heap.size w6)) ?_
      rintro r w7 ⟨rfl, hb_⟩
      have HB7 := hide ((unhide HB6).trans (hb_.mono (unhide HB6).size))
      have Oe7 := hide ((unhide Oe6).call hb_)
      clear Oe6
      have Og7 := hide ((unhide Og6).call hb_)
      clear Og6
      clear hb_
      have HCK : Hid (checkE (repL n at_ k s) n = 0) := hide (by have h := ed_check (unhide Ip).1.choose_spec; rw [(unhide Ip).2.2] at h; exact h)
      go_wp2_with fail
      refine Calls.mono (check_at (w := w7) (unhide HU _ (unhide HB7)) (unhide Oe7) (unhide Np) (Below.refl w7.heap.size w7)) ?_
      rintro r w8 ⟨rfl, hb_⟩
      have HB8 := hide ((unhide HB7).trans (hb_.mono (unhide HB7).size))
      have Oe8 := hide ((unhide Oe7).call hb_)
      clear Oe7
      have Og8 := hide ((unhide Og7).call hb_)
      clear Og7
      clear hb_
      rw [unhide HCK]
      go_wp2_with fail
      refine Calls.mono (awake_any _ (unhide HU _ (unhide HB8))) ?_
      rintro r wa ⟨rfl, hba⟩
      have HBa := hide ((unhide HB8).trans (hba.mono (unhide HB8).size))
      clear hba
      go_wp2_with fail
      go_ret
      exact ⟨rfl, unhide HBa⟩
    | true =>
      go_enter Tryd.func6, Tryd.ntmps6
      have Ip := hide (rep_is (unhide HRA))
      have Iq := hide (rep_is (unhide HRB))
      go_wp2_with fail
      refine Calls.mono (unhide HC1 _ (unhide HB1)) ?_
      rintro r w2 ⟨h_, hb_⟩
      have HB2 := hide ((unhide HB1).trans (hb_.mono (unhide HB1).size))
      clear hb_
      rcases h_ with ⟨h_, _⟩ | ⟨_, v, rfl, ov⟩
      · rw [unhide HRA] at h_; cases h_
      obtain ⟨e, ce, hve, hEe⟩ := OwnP.edit ov (ed_txt (unhide Ip).1.choose_spec) (by have := (unhide Ip).2.1; omega)
      subst hve
      have Oe2 := hide hEe
      obtain ⟨np, hnp⟩ : ∃ z, (repL n at_ k s).length = z := ⟨_, rfl⟩
      rw [hnp]
      have Np := hide hnp
      clear hEe hnp ov
      go_wp2_with fail
      refine Calls.mono (unhide HC2 _ (unhide HB2)) ?_
      rintro r w3 ⟨h_, hb_⟩
      have HB3 := hide ((unhide HB2).trans (hb_.mono (unhide HB2).size))
      have Oe3 := hide ((unhide Oe2).call hb_)
      clear Oe2
      clear hb_
      rcases h_ with ⟨h_, _⟩ | ⟨_, v, rfl, ov⟩
      · rw [unhide HRA] at h_; cases h_
      obtain ⟨g, cg, hvg, hEg⟩ := OwnP.edit ov (ed_txt (unhide Ip).1.choose_spec) (by have := (unhide Ip).2.1; omega)
      rw [unhide Np] at hvg
      subst hvg
      have Og3 := hide hEg
      clear hEg ov
      go_wp2_with fail
      refine Calls.mono (unhide HC3 _ (unhide HB3)) ?_
      rintro r w4 ⟨h_, hb_⟩
      have HB4 := hide ((unhide HB3).trans (hb_.mono (unhide HB3).size))
      have Oe4 := hide ((unhide Oe3).call hb_)
      clear Oe3
      have Og4 := hide ((unhide Og3).call hb_)
      clear Og3
      clear hb_
      rcases h_ with ⟨h_, _⟩ | ⟨_, v, rfl, ov⟩
      · rw [unhide HRB] at h_; cases h_
      obtain ⟨x, cx, hvx, hEx⟩ := OwnP.edit ov (ed_txt (unhide Iq).1.choose_spec) (by have := (unhide Iq).2.1; omega)
      subst hvx
      have Ox4 := hide hEx
      obtain ⟨nq, hnq⟩ : ∃ z, (repL n 0 0 ByteArray.empty).length = z := ⟨_, rfl⟩
      rw [hnq]
      have Nq := hide hnq
      clear hEx hnq ov
      go_wp2_with fail
      refine Calls.mono (unhide HC4 _ (unhide HB4)) ?_
      rintro r w5 ⟨h_, hb_⟩
      have HB5 := hide ((unhide HB4).trans (hb_.mono (unhide HB4).size))
      have Oe5 := hide ((unhide Oe4).call hb_)
      clear Oe4
      have Og5 := hide ((unhide Og4).call hb_)
      clear Og4
      have Ox5 := hide ((unhide Ox4).call hb_)
      clear Ox4
      clear hb_
      rcases h_ with ⟨h_, _⟩ | ⟨_, v, rfl, ov⟩
      · rw [unhide HRB] at h_; cases h_
      obtain ⟨y, cy, hvy, hEy⟩ := OwnP.edit ov (ed_txt (unhide Iq).1.choose_spec) (by have := (unhide Iq).2.1; omega)
      rw [unhide Nq] at hvy
      subst hvy
      have Oy5 := hide hEy
      clear hEy ov
      go_wp2_with fail
      refine Calls.mono (rsame_at (w := w5) (unhide Oe5) (unhide Og5) rfl (unhide Np) (unhide Np) (Below.refl w5.heap.size w5)) ?_
      rintro r w6 ⟨rfl, hb_⟩
      have HB6 := hide ((unhide HB5).trans (hb_.mono (unhide HB5).size))
      have Oe6 := hide ((unhide Oe5).call hb_)
      clear Oe5
      have Og6 := hide ((unhide Og5).call hb_)
      clear Og5
      have Ox6 := hide ((unhide Ox5).call hb_)
      clear Ox5
      have Oy6 := hide ((unhide Oy5).call hb_)
      clear Oy5
      clear hb_
      go_wp2_with fail
      refine Calls.mono (rsame_at (w := w6) (unhide Ox6) (unhide Oy6) rfl (unhide Nq) (unhide Nq) (Below.refl w6.heap.size w6)) ?_
      rintro r w7 ⟨rfl, hb_⟩
      have HB7 := hide ((unhide HB6).trans (hb_.mono (unhide HB6).size))
      have Oe7 := hide ((unhide Oe6).call hb_)
      clear Oe6
      have Og7 := hide ((unhide Og6).call hb_)
      clear Og6
      have Ox7 := hide ((unhide Ox6).call hb_)
      clear Ox6
      have Oy7 := hide ((unhide Oy6).call hb_)
      clear Oy6
      clear hb_
      have HCK : Hid (checkE (repL n at_ k s) n = 0) := hide (by have h := ed_check (unhide Ip).1.choose_spec; rw [(unhide Ip).2.2] at h; exact h)
      go_wp2_with fail
      refine Calls.mono (check_at (w := w7) (unhide HU _ (unhide HB7)) (unhide Oe7) (unhide Np) (Below.refl w7.heap.size w7)) ?_
      rintro r w8 ⟨rfl, hb_⟩
      have HB8 := hide ((unhide HB7).trans (hb_.mono (unhide HB7).size))
      have Oe8 := hide ((unhide Oe7).call hb_)
      clear Oe7
      have Og8 := hide ((unhide Og7).call hb_)
      clear Og7
      have Ox8 := hide ((unhide Ox7).call hb_)
      clear Ox7
      have Oy8 := hide ((unhide Oy7).call hb_)
      clear Oy7
      clear hb_
      rw [unhide HCK]
      go_wp2_with fail
      refine Calls.mono (awake_any _ (unhide HU _ (unhide HB8))) ?_
      rintro r wa ⟨rfl, hba⟩
      have HBa := hide ((unhide HB8).trans (hba.mono (unhide HB8).size))
      clear hba
      go_wp2_with fail
      go_ret
      exact ⟨rfl, unhide HBa⟩
end Go.Proofs.YtidblnjohkadhaaDoor
