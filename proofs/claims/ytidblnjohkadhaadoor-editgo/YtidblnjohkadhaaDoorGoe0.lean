/- A cursor through two edits that drop nothing: the walk. -/
import Derived.Test.YtidblnjohkadhaaDoorSqu0
import Derived.Test.YtidblnjohkadhaaDoorWof
import Derived.Test.YtidblnjohkadhaaDoorCur
namespace Go.Proofs.YtidblnjohkadhaaDoor
set_option linter.unusedVariables false
set_option linter.unusedSimpArgs false
open Go.ChangeShapes Go.WideShapes Go.ChangeAt Go.RowKit Go.Joins Go.Deep

set_option maxRecDepth 100000 in
set_option maxHeartbeats 4000000 in
theorem idx_two (x y : Int) (w : World) : (Instr.index 55 (.agg #[.int .i64 x, .int .i64 y]) (.int .i64 1)).run Tryd.prog w = .ok (.int .i64 y) w := by
  have u3 := Tryd.underlying3
  have a3 := Tryd.isAgg3
  have z3 := Tryd.sizeOf3
  simp only [Instr.index, Sem.run_bind, run_underlying Tryd.underlying55, Result.andThen_ok]
  go_simp
theorem canG_nodrop : ∀ (x : List At) (ps : List (List UInt8)), At.dropsN x = 0 → At.canG ps 0 x = ps.map .p ++ x
  | [], ps, _ => by simp [At.canG]
  | .k :: x, ps, h => by
    have ih := canG_nodrop x [] (by simpa [At.dropsN] using h)
    simp [At.canG, ih]
  | .p c :: x, ps, h => by
    have ih := canG_nodrop x (ps ++ [c]) (by simpa [At.dropsN] using h)
    simp [At.canG, ih]
  | .d :: x, ps, h => by simp [At.dropsN] at h
theorem can_nodrop {x : List At} (h : At.dropsN x = 0) : At.can x = x := by
  have := canG_nodrop x [] h
  simpa [At.can] using this
theorem drops_le (x : List At) : At.dropsN x ≤ At.fromN x := by
  induction x with
  | nil => simp [At.dropsN]
  | cons s x ih => cases s <;> simp only [At.fromN, At.dropsN] <;> omega
set_option maxRecDepth 100000 in
set_option maxHeartbeats 4000000 in
theorem cursor_bad {w W : World} {a : Option Addr} {l : List Pt} {c n F T : Nat} (hU : UT W) (he : Edit W a l c) (hn : l.length = n) (hd : IsEd l F T) {i : Int} (hi : ¬ (0 ≤ i ∧ i ≤ (F : Int))) (ah : Bool) (hb : Below w.heap.size w W) :
    Calls Tryd.prog 48 #[.slice a n c, .int .i64 i, .bool ah] W fun r w' => r = .returned (.tuple #[.int .i64 0, .int .i64 30]) ∧ Below w.heap.size w w' := by
  have HSZ := hide (size_at (w := w) hU he hn hb)
  have e : szVal l = .tuple #[.int .i64 (F : Int), .int .i64 (T : Int), .int .i64 0] := by unfold szVal; rw [ed_size hd]
  rw [e] at HSZ
  have HW : Hid (∀ W : World, Calls Tryd.prog 60 #[.int .i64 i, .int .i64 (F : Int)] W fun r w' => r = .returned (.bool false) ∧ W = w') := hide (fun W => by
    have h := within_any i (F : Int) W
    rw [show (decide ((0 : Int) ≤ i) && decide (i ≤ (F : Int))) = false by simp only [Bool.and_eq_false_iff, decide_eq_false_iff_not]; omega] at h
    exact h)
  clear hU he hn hd hb e hi
  go_enter Tryd.func48, Tryd.ntmps48
  go_wp2_with fail
  refine Calls.mono (unhide HSZ) ?_
  rintro r w2 ⟨rfl, hb2⟩
  have HB2 := hide hb2
  clear hb2
  go_wp2_with fail
  refine Calls.mono (unhide HW _) ?_
  rintro r w3 ⟨rfl, rfl⟩
  go_wp2_with fail
  go_ret2
  exact ⟨rfl, unhide HB2⟩
set_option maxRecDepth 100000 in
set_option maxHeartbeats 4000000 in
theorem go_law (a : Option Addr) (la : List Pt) (ca : Nat) (b : Option Addr) (lb : List Pt) (cb : Nat) (i : Int) (ah : Bool) (w : World) (hT : UT w) (ea : Edit w a la ca) (eb : Edit w b lb cb) (i0 : -9223372036854775808 ≤ i) (i1 : i ≤ 9223372036854775807) : Calls Tryd.prog 20 #[.slice a la.length ca, .slice b lb.length cb, .int .i64 i, .bool ah] w fun r w' => r = .returned (.bool true) ∧ Below w.heap.size w w' := by
  have HU : Hid (∀ W, Below w.heap.size w W → UT W) := hide (fun W h => hT.call h)
  have HB0 := hide (Below.refl w.heap.size w)
  have Ea : Hid (∀ W, Below w.heap.size w W → Edit W a la ca) := hide (fun W h => ea.call h)
  have Ta := hide (⟨ea.txt, ea.cap, ea.max, ea.num⟩ : _ ∧ _ ∧ _ ∧ _)
  have Eb : Hid (∀ W, Below w.heap.size w W → Edit W b lb cb) := hide (fun W h => eb.call h)
  have Tb := hide (⟨eb.txt, eb.cap, eb.max, eb.num⟩ : _ ∧ _ ∧ _ ∧ _)
  have hbL : Below w.heap.size w (w.alloc (.cells #[.slice a la.length ca, .slice b lb.length cb] 22)) := (Below.refl _ _).alloc (Nat.le_refl _) _
  have HLT := hide (narrow_any w.heap.size [⟨a, la, ca⟩, ⟨b, lb, cb⟩] (w.alloc (.cells #[.slice a la.length ca, .slice b lb.length cb] 22)) (RowAt.new w 22 _) (by
    intro e he
    simp only [List.mem_cons, List.not_mem_nil, or_false] at he
    rcases he with rfl | rfl
    · exact (ea.call hbL).pts
    · exact (eb.call hbL).pts
    ) (by
    intro e he
    simp only [List.mem_cons, List.not_mem_nil, or_false] at he
    rcases he with rfl | rfl
    · exact Nat.le_trans ea.cap ea.max
    · exact Nat.le_trans eb.cap eb.max
    ) (by
    intro e he
    simp only [List.mem_cons, List.not_mem_nil, or_false] at he
    rcases he with rfl | rfl
    · exact ea.txt2
    · exact eb.txt2
    ) (by simp))
  have HBL := hide hbL
  obtain ⟨na, hna⟩ : ∃ z, la.length = z := ⟨_, rfl⟩
  obtain ⟨nb, hnb⟩ : ∃ z, lb.length = z := ⟨_, rfl⟩
  simp only [hna, hnb] at HLT HBL ⊢
  have Na := hide hna
  have Nb := hide hnb
  clear hT hbL ea hna eb hnb
  go_enter Tryd.func20, Tryd.ntmps20
  go_wp2_with fail
  refine Calls.mono (unhide HLT) ?_
  rintro r w1 ⟨⟨lb_, rfl, hlb⟩, hb1⟩
  have HB1 := hide ((unhide HBL).trans (hb1.mono (unhide HBL).size))
  have HLB := hide hlb
  clear hb1 HLT hlb HBL
  cases lb_ with
  | false =>
    go_wp2_with fail
    refine Calls.mono (awake_any _ (unhide HU _ (unhide HB1))) ?_
    rintro r wa ⟨rfl, hba⟩
    have HBa := hide ((unhide HB1).trans (hba.mono (unhide HB1).size))
    clear hba
    go_wp2_with fail
    go_ret
    exact ⟨rfl, unhide HBa⟩
  | true =>
    have qa : Hid (na ≤ 200) := hide (by have h := (unhide HLB rfl).1 ⟨a, la, ca⟩ (by simp); rw [← unhide Na]; exact h)
    have qb : Hid (nb ≤ 200) := hide (by have h := (unhide HLB rfl).1 ⟨b, lb, cb⟩ (by simp); rw [← unhide Nb]; exact h)
    have HWS := hide (unhide HLB rfl).2
    clear HLB
    go_wp2_with fail
    refine Calls.mono (compose_at (w := w1) (unhide HU _ (unhide HB1)) (unhide Ea _ (unhide HB1)) (unhide Eb _ (unhide HB1)) (unhide Na) (unhide Nb) (by have h1 := unhide qa; have h2 := unhide qb; omega) (Below.refl w1.heap.size w1)) ?_
    rintro r w2 ⟨⟨h_, _⟩, hb_⟩
    have HB2 := hide ((unhide HB1).trans (hb_.mono (unhide HB1).size))
    clear hb_
    rcases h_ with ⟨_, rfl⟩ | ⟨ht, v, lx, rfl, ov, nf_, at_, ln_⟩
    · skip
      go_wp2_with fail
      refine Calls.mono (awake_any _ (unhide HU _ (unhide HB2))) ?_
      rintro r wa ⟨rfl, hba⟩
      have HBa := hide ((unhide HB2).trans (hba.mono (unhide HB2).size))
      clear hba
      go_wp2_with fail
      go_ret
      exact ⟨rfl, unhide HBa⟩
    obtain ⟨fa, fb, fc, hEa, hEb⟩ := comB_ed ht
    have Da := hide hEa
    have Db := hide hEb
    clear ht hEa hEb
    have hEc := ed_comp (unhide Da) (unhide Db) nf_ at_
    have hlc : lx.length ≤ 803 := by have h1 := unhide qa; have h2 := unhide qb; have h3 := unhide Na; have h4 := unhide Nb; omega
    obtain ⟨x, cx, hvx, hEx⟩ := ov.edit (ed_txt hEc) (by omega)
    subst hvx
    have Ox2 := hide hEx
    obtain ⟨nx, hnx⟩ : ∃ z, lx.length = z := ⟨_, rfl⟩
    rw [hnx]
    have Nx := hide hnx
    clear hEx hnx ov
    have Dx := hide hEc
    have Ax := hide at_
    have HLX := hide hlc
    clear nf_ at_ ln_ hEc hlc
    by_cases hi : 0 ≤ i ∧ i ≤ (fa : Int)
    · skip
      obtain ⟨hi0, hi1⟩ := hi
      obtain ⟨m, rfl⟩ : ∃ m : Nat, i = (m : Int) := ⟨i.toNat, by omega⟩
      have HM : Hid (m ≤ fa) := hide (by omega)
      clear hi0 hi1
      obtain ⟨x1, hx1⟩ : ∃ z, At.cur (atomsL la) m ah = z := ⟨_, rfl⟩
      have HX1 := hide hx1
      have HX1L : Hid (x1 ≤ fb) := hide (by have h := At.cur_le (atomsL la) m ah; rw [(unhide Da).2.2.1] at h; omega)
      obtain ⟨y1, hy1⟩ : ∃ z, At.cur (atomsL lb) x1 ah = z := ⟨_, rfl⟩
      have HY1 := hide hy1
      obtain ⟨z1, hz1⟩ : ∃ z, At.cur (atomsL lx) m ah = z := ⟨_, rfl⟩
      have HZ1 := hide hz1
      clear hx1 hy1 hz1
      go_wp2_with fail
      refine Calls.mono (cursor_at (w := w2) (unhide HU _ (unhide HB2)) (unhide Ea _ (unhide HB2)) (unhide Na) (unhide Da) (at_ := m) (unhide HM) ah (Below.refl w2.heap.size w2)) ?_
      rintro r w3 ⟨rfl, hb_⟩
      have HB3 := hide ((unhide HB2).trans (hb_.mono (unhide HB2).size))
      have Ox3 := hide ((unhide Ox2).call hb_)
      clear Ox2
      clear hb_
      rw [unhide HX1]
      go_wp2_with fail
      refine Calls.mono (cursor_at (w := w3) (unhide HU _ (unhide HB3)) (unhide Eb _ (unhide HB3)) (unhide Nb) (unhide Db) (at_ := x1) (unhide HX1L) ah (Below.refl w3.heap.size w3)) ?_
      rintro r w4 ⟨rfl, hb_⟩
      have HB4 := hide ((unhide HB3).trans (hb_.mono (unhide HB3).size))
      have Ox4 := hide ((unhide Ox3).call hb_)
      clear Ox3
      clear hb_
      rw [unhide HY1]
      go_wp2_with fail
      refine Calls.mono (cursor_at (w := w4) (unhide HU _ (unhide HB4)) (unhide Ox4) (unhide Nx) (unhide Dx) (at_ := m) (unhide HM) ah (Below.refl w4.heap.size w4)) ?_
      rintro r w5 ⟨rfl, hb_⟩
      have HB5 := hide ((unhide HB4).trans (hb_.mono (unhide HB4).size))
      have Ox5 := hide ((unhide Ox4).call hb_)
      clear Ox4
      clear hb_
      rw [unhide HZ1]
      go_wp2_with fail
      refine Calls.mono (weightOf_at (w := w5) (unhide HU _ (unhide HB5)) (unhide Ea _ (unhide HB5)) (unhide Na) (by have h1 := unhide qa; have h2 := unhide Na; omega) (unhide Da) (Below.refl w5.heap.size w5)) ?_
      rintro r w6 ⟨rfl, hb_⟩
      have HB6 := hide ((unhide HB5).trans (hb_.mono (unhide HB5).size))
      have Ox6 := hide ((unhide Ox5).call hb_)
      clear Ox5
      clear hb_
      obtain ⟨pa, hpa⟩ : ∃ z : Nat, At.putsN (atomsL la) = z := ⟨_, rfl⟩
      obtain ⟨da, hda⟩ : ∃ z : Nat, At.dropsN (atomsL la) = z := ⟨_, rfl⟩
      rw [hpa, hda]
      have HDA := hide hda
      have ixa := fun w => idx_two (pa : Int) (da : Int) w
      have hdal : da ≤ 1099511627776 := by have h := drops_le (atomsL la); rw [(unhide Da).2.1] at h; have := (unhide Da).2.2.2.1; omega
      clear hpa hda
      go_wp2_with fail
      refine Calls.mono (weightOf_at (w := w6) (unhide HU _ (unhide HB6)) (unhide Eb _ (unhide HB6)) (unhide Nb) (by have h1 := unhide qb; have h2 := unhide Nb; omega) (unhide Db) (Below.refl w6.heap.size w6)) ?_
      rintro r w7 ⟨rfl, hb_⟩
      have HB7 := hide ((unhide HB6).trans (hb_.mono (unhide HB6).size))
      have Ox7 := hide ((unhide Ox6).call hb_)
      clear Ox6
      clear hb_
      obtain ⟨pb, hpb⟩ : ∃ z : Nat, At.putsN (atomsL lb) = z := ⟨_, rfl⟩
      obtain ⟨db, hdb⟩ : ∃ z : Nat, At.dropsN (atomsL lb) = z := ⟨_, rfl⟩
      rw [hpb, hdb]
      have HDB := hide hdb
      have ixb := fun w => idx_two (pb : Int) (db : Int) w
      have hdbl : db ≤ 1099511627776 := by have h := drops_le (atomsL lb); rw [(unhide Db).2.1] at h; have := (unhide Db).2.2.2.1; omega
      clear hpb hdb
      by_cases hd : 0 < (da : Int) + (db : Int)
      · skip
        go_wp2_with fail
        refine Calls.mono (awake_any _ (unhide HU _ (unhide HB7))) ?_
        rintro r wa ⟨rfl, hba⟩
        have HBa := hide ((unhide HB7).trans (hba.mono (unhide HB7).size))
        clear hba
        go_wp2_with fail
        go_ret
        exact ⟨rfl, unhide HBa⟩
      · have hd0 : da = 0 ∧ db = 0 := by omega
        have hzy : z1 = y1 := by
          rw [← unhide HZ1, ← unhide HY1, ← unhide HX1, unhide Ax, can_nodrop (At.drops_comp _ _ (by rw [unhide HDA]; exact hd0.1) (by rw [unhide HDB]; exact hd0.2))]
          exact At.cur_comp _ _ _ _ (by rw [unhide HDA]; exact hd0.1) (by rw [unhide HDB]; exact hd0.2) (by rw [(unhide Da).2.2.1, (unhide Db).2.1]) (by rw [(unhide Da).2.1]; exact unhide HM)
        subst hzy
        clear hd0
        go_wp2_with fail
        refine Calls.mono (awake_any _ (unhide HU _ (unhide HB7))) ?_
        rintro r wa ⟨rfl, hba⟩
        have HBa := hide ((unhide HB7).trans (hba.mono (unhide HB7).size))
        clear hba
        go_wp2_with fail
        go_ret
        exact ⟨rfl, unhide HBa⟩
    · skip
      have HI := hide hi
      clear hi
      go_wp2_with fail
      refine Calls.mono (cursor_bad (w := w2) (unhide HU _ (unhide HB2)) (unhide Ea _ (unhide HB2)) (unhide Na) (unhide Da) (unhide HI) ah (Below.refl w2.heap.size w2)) ?_
      rintro r w3 ⟨rfl, hb_⟩
      have HB3 := hide ((unhide HB2).trans (hb_.mono (unhide HB2).size))
      have Ox3 := hide ((unhide Ox2).call hb_)
      clear Ox2
      clear hb_
      go_wp2_with fail
      refine Calls.mono (awake_any _ (unhide HU _ (unhide HB3))) ?_
      rintro r wa ⟨rfl, hba⟩
      have HBa := hide ((unhide HB3).trans (hba.mono (unhide HB3).size))
      clear hba
      go_wp2_with fail
      go_ret
      exact ⟨rfl, unhide HBa⟩
end Go.Proofs.YtidblnjohkadhaaDoor
