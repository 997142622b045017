/- Any parts in their one form: the walk. -/
import Derived.Test.YtidblnjohkadhaaDoorRnm
import Derived.Test.YtidblnjohkadhaaDoorSam
import Derived.Lib.LazyBuf
namespace Go.Proofs.YtidblnjohkadhaaDoor
set_option linter.unusedVariables false
set_option linter.unusedSimpArgs false
open Go.ChangeShapes Go.WideShapes Go.ChangeAt Go.RowKit Go.Joins Go.Deep

theorem wt_nil : wt [] = 0 := rfl
theorem wt_cons (p : Pt) (l : List Pt) : wt (p :: l) = min (p.text.size : Int) 4096 + wt l := by simp [wt]
theorem sumT_cons (p : Pt) (l : List Pt) : sumT (p :: l) = p.text.size + sumT l := by simp [sumT]
theorem wt_pos : ∀ l : List Pt, 0 ≤ wt l
  | [] => by simp [wt_nil]
  | p :: l => by have := wt_pos l; rw [wt_cons]; omega
theorem wt_none : ∀ l : List Pt, wt l = 0 → sumT l = 0
  | [], _ => rfl
  | p :: l, h => by
    have h1 := wt_pos l
    rw [wt_cons] at h
    have := wt_none l (by omega)
    rw [sumT_cons]
    omega
theorem wt_sumT : ∀ l : List Pt, (∀ p ∈ l, p.text.size ≤ 140737488351232) → wt l ≤ 4096 → (sumT l : Int) = wt l ∨ 4096 ≤ wt l ∧ (sumT l : Int) ≤ 140737488351232 + (wt l - 4096)
  | [], _, _ => by simp [wt_nil, sumT]
  | p :: l, ht, h => by
    have h1 := wt_pos l
    have h2 := ht p (List.mem_cons_self ..)
    rw [wt_cons] at h ⊢
    rw [sumT_cons]
    have := wt_sumT l (fun q hq => ht q (List.mem_cons_of_mem _ hq)) (by omega)
    omega
theorem wt_most (l : List Pt) (h1 : ∀ p ∈ l, p.text.size ≤ 140737488351232) (h2 : wt l ≤ 4096) : sumT l ≤ 140737488351232 := by
  have := wt_sumT l h1 h2
  omega
theorem wpList_append_pts {ops : Array Oper} {rest : List Oper} {o : Oper} {a : Act} {Q : Exit → Act → World → Prop} {W : World} (hgd : o.guard = none) (s x : Operand)
    (ho : o.op = .call { callee := .builtin .append, args := #[s, x], argTypes := #[22, 22] }) (B : Nat) (v : Value) (l m : List Pt) (ad : Option Addr) (c : Nat)
    (hs : a.eval s = v) (hv : OwnP W B v l) (hn : l.length + m.length ≤ 4398046511104) (hB : B ≤ W.heap.size) (hx : a.eval x = .slice ad m.length c) (hp : PtsAt W ad m)
    (h : ∀ ad' cap w', OwnP w' B (.slice ad' (l.length + m.length) cap) (l ++ m) → W.grownBy w' v.ownBlock → (Value.ownBlock (.slice ad' (l.length + m.length) cap) = v.ownBlock ∨ Value.ownBlock (.slice ad' (l.length + m.length) cap) = some W.heap.size) → wpList Tryd.prog ops Q rest (a.put o.dst (.slice ad' (l.length + m.length) cap)) w') : wpList Tryd.prog ops Q (o :: rest) a W :=
  wpList_plain hgd fun _ hK => wp_append_pts s x ho B v l m ad c hs hv hn hB hx hp (fun ad' cap w' h1 h2 h3 => hK _ _ (h ad' cap w' h1 h2 h3))
set_option maxRecDepth 100000 in
set_option maxHeartbeats 4000000 in
theorem clone_any (a : Option Addr) (l : List Pt) (c : Nat) (w : World) (hp : PtsAt w a l) (hl : l.length ≤ 1099511627776) :
    Calls Tryd.prog 27 #[.slice a l.length c] w fun r w' => ∃ v, r = .returned v ∧ OwnP w' w.heap.size v l ∧ Below w.heap.size w w' := by
  have HP := hide hp
  have HL := hide hl
  obtain ⟨n, hn⟩ : ∃ n, l.length = n := ⟨_, rfl⟩
  have HN := hide hn
  rw [hn]
  cases a with
  | none =>
    have hl0 : l = [] := by
      rcases hp with h | ⟨b, off, h, _⟩
      · exact h
      · cases h
    subst hl0
    obtain rfl : 0 = n := hn
    have hq := fun W => Go.run_eql_slice_nil (P := Tryd.prog) W 22 32 none 0 c Tryd.underlying22
    clear hp
    go_enter Tryd.func27, Tryd.ntmps27
    go_wp2_with fail
    go_ret
    exact ⟨_, rfl, OwnP.nil _ _, Below.refl _ _⟩
  | some b =>
    have hq := fun W => Go.run_eql_slice_nil (P := Tryd.prog) W 22 32 (some b) n c Tryd.underlying22
    clear hp hn hl
    have HOE := hide (own_empty w w.heap.size (Nat.le_refl _))
    have hbA : Below w.heap.size w (w.alloc (.cells #[] 32)) := (Below.refl _ _).alloc (Nat.le_refl _) _
    have HPA := hide ((unhide HP).call hbA)
    have HBA := hide hbA
    clear hbA
    go_enter Tryd.func27, Tryd.ntmps27
    go_wp2_with (at_builtin; refine wpList_append_pts rfl _ _ rfl w.heap.size _ [] l (some b) c rfl (unhide HOE) ?c0 ?c1 ?c2 (unhide HPA) (fun ad' cap w' hv hg hk => ?_))
    case c0 => have := unhide HL; simp only [List.length_nil]; omega
    case c1 => exact (unhide HBA).size
    case c2 => rw [unhide HN]; rfl
    have HV : Hid (OwnP w' w.heap.size (.slice ad' l.length cap) l) := hide (by simpa using hv)
    have HB2 := hide ((unhide HBA).trans ((grown_only hg).below (unhide HBA).size (fun k hk => ((unhide HOE).lt k hk).1)))
    clear hv hg hk
    go_wp2_with fail
    go_ret
    exact ⟨_, rfl, unhide HV, unhide HB2⟩
set_option maxRecDepth 100000 in
set_option maxHeartbeats 4000000 in
theorem equal_true (a b : Option Addr) (l : List Pt) (ca cb n : Nat) (w : World) (ha : PtsAt w a l) (hb : PtsAt w b l) (hn : l.length = n) (hc : n ≤ maxLen) :
    Calls Tryd.prog 31 #[.slice a n ca, .slice b n cb] w fun r w' => r = .returned (.bool true) ∧ Below w.heap.size w w' := by
  have HA := hide ha
  have HB := hide hb
  have HN := hide hn
  have nI : (n : Int) ≤ 9223372036854775807 := by unfold maxLen at hc; omega
  clear ha hb hn
  go_enter Tryd.func31, Tryd.ntmps31
  go_wp2_with fail
  go_loopw [13] (fun i wr => ∃ k : Nat, k ≤ n ∧ i = .int .i64 (k : Int) ∧ Hid (Below w.heap.size w wr)) (fun i _ => ((n : Int) - intOf i).toNat)
  case atStart => exact ⟨0, by omega, by simp, hide (Below.refl _ _)⟩
  case round =>
    obtain ⟨k, hk, rfl, HBW⟩ := hrel
    by_cases hlt : k < n
    · have kI : (k : Int) < (n : Int) := by omega
      obtain ⟨p, hpk⟩ : ∃ p, l[k]? = some p := ⟨_, List.getElem?_eq_getElem (by have := unhide HN; omega)⟩
      obtain ⟨b1, o1, rfl, e0, e1, e2⟩ := (unhide HA).at_ (unhide HBW) hpk
      obtain ⟨b2, o2, rfl, f0, f1, f2⟩ := (unhide HB).at_ (unhide HBW) hpk
      clear hpk
      go_wp2_with fail
      go_quiet (fail)
      have HBW2 := hide ((unhide HBW).trans ((Joins.below_draws _ _ nq).mono (unhide HBW).size))
      clear HBW
      go_wp2_with fail
      exact ⟨⟨k + 1, by omega, by simp, HBW2⟩, by simp [intOf]; omega⟩
    · obtain rfl : n = k := by omega
      have kI : ¬ (n : Int) < (n : Int) := by omega
      go_wp2_with fail
      go_ret
      exact ⟨rfl, unhide HBW⟩
theorem clone_at {w W : World} {a : Option Addr} {l : List Pt} {c n : Nat} (ha : Edit W a l c) (hn : l.length = n) (hl : n ≤ 1099511627776) (hb : Below w.heap.size w W) :
    Calls Tryd.prog 27 #[.slice a n c] W fun r w' => (∃ v, r = .returned v ∧ OwnP w' W.heap.size v l) ∧ Below w.heap.size w w' := by
  subst hn
  refine Calls.mono (clone_any a l c W ha.pts hl) ?_
  rintro r w' ⟨v, rfl, h, h2⟩
  exact ⟨⟨v, rfl, h⟩, hb.trans (h2.mono hb.size)⟩
theorem rnorm_at {w W : World} {a : Option Addr} {l : List Pt} {c n : Nat} (ha : Edit W a l c) (hn : l.length = n) (hl : n ≤ 4194304) (hs : sumT l ≤ 140737488355328) (hb : Below w.heap.size w W) :
    Calls Tryd.prog 30 #[.slice a n c] W fun r w' => (∃ v, r = .returned v ∧ OwnP w' W.heap.size v (rnormL l)) ∧ Below w.heap.size w w' := by
  subst hn
  refine Calls.mono (rnorm_any a l c W ha.pts hl hs) ?_
  rintro r w' ⟨v, rfl, h, h2⟩
  exact ⟨⟨v, rfl, h⟩, hb.trans (h2.mono hb.size)⟩
theorem equal_at {w W : World} {a b : Option Addr} {l : List Pt} {ca cb na : Nat} (ha : Edit W a l ca) (hb' : Edit W b l cb) (hna : l.length = na) (hb : Below w.heap.size w W) :
    Calls Tryd.prog 31 #[.slice a na ca, .slice b na cb] W fun r w' => r = .returned (.bool true) ∧ Below w.heap.size w w' := by
  subst hna
  refine Calls.mono (equal_true a b l ca cb l.length W ha.pts hb'.pts rfl (Nat.le_trans ha.cap ha.max)) ?_
  rintro r w' ⟨rfl, h⟩
  exact ⟨rfl, hb.trans (h.mono hb.size)⟩
theorem sumT_txt {l : List Pt} {M : Nat} (h : sumT l ≤ M) : ∀ p ∈ l, p.text.size ≤ M := fun p hp => Nat.le_trans (sumT_mem hp) h
set_option maxRecDepth 100000 in
set_option maxHeartbeats 4000000 in
theorem norms_law (a : Option Addr) (la : List Pt) (ca : Nat) (w : World) (hT : UT w) (ea : Edit w a la ca) : Calls Tryd.prog 4 #[.slice a la.length ca] w fun r w' => r = .returned (.bool true) ∧ Below w.heap.size w w' := by
  have HU : Hid (∀ W, Below w.heap.size w W → UT W) := hide (fun W h => hT.call h)
  have HB0 := hide (Below.refl w.heap.size w)
  have Ea : Hid (∀ W, Below w.heap.size w W → Edit W a la ca) := hide (fun W h => ea.call h)
  have Ta := hide (⟨ea.txt, ea.cap, ea.max, ea.num⟩ : _ ∧ _ ∧ _ ∧ _)
  have hbL : Below w.heap.size w (w.alloc (.cells #[.slice a la.length ca] 22)) := (Below.refl _ _).alloc (Nat.le_refl _) _
  have HLT := hide (light_any w.heap.size [⟨a, la, ca⟩] (w.alloc (.cells #[.slice a la.length ca] 22)) (RowAt.new w 22 _) (by
    intro e he
    simp only [List.mem_cons, List.not_mem_nil, or_false] at he
    rcases he with rfl
    · exact (ea.call hbL).pts
    ) (by
    intro e he
    simp only [List.mem_cons, List.not_mem_nil, or_false] at he
    rcases he with rfl
    · exact Nat.le_trans ea.cap ea.max
    ) (by simp))
  have HBL := hide hbL
  obtain ⟨na, hna⟩ : ∃ z, la.length = z := ⟨_, rfl⟩
  simp only [hna] at HLT HBL ⊢
  have Na := hide hna
  clear hT hbL ea hna
  go_enter Tryd.func4, Tryd.ntmps4
  go_wp2_with fail
  refine Calls.mono (unhide HLT) ?_
  rintro r w1 ⟨⟨lb_, rfl, hlb⟩, hb1⟩
  have HB1 := hide ((unhide HBL).trans (hb1.mono (unhide HBL).size))
  have HLB := hide hlb
  clear hb1 HLT hlb HBL
  cases lb_ with
  | false =>
    go_wp2_with fail
    refine Calls.mono (awake_any _ (unhide HU _ (unhide HB1))) ?_
    rintro r wa ⟨rfl, hba⟩
    have HBa := hide ((unhide HB1).trans (hba.mono (unhide HB1).size))
    clear hba
    go_wp2_with fail
    go_ret
    exact ⟨rfl, unhide HBa⟩
  | true =>
    have qa : Hid (na ≤ 200) := hide (by have h := (unhide HLB rfl).1 ⟨a, la, ca⟩ (by simp); rw [← unhide Na]; exact h)
    have HWS := hide (unhide HLB rfl).2
    clear HLB
    have HSU0 : Hid (sumT la ≤ 140737488351232) := hide (wt_most la (unhide Ta).1 (by have := unhide HWS; simpa [wtS] using this))
    have HSU : Hid (sumT la ≤ 140737488355328) := hide (by have := unhide HSU0; omega)
    go_wp2_with fail
    refine Calls.mono (clone_at (w := w1) (unhide Ea _ (unhide HB1)) (unhide Na) (by have := unhide qa; omega) (Below.refl w1.heap.size w1)) ?_
    rintro r w2 ⟨⟨v, rfl, ov⟩, hb_⟩
    have HB2 := hide ((unhide HB1).trans (hb_.mono (unhide HB1).size))
    clear hb_
    obtain ⟨g, cg, hvg, hEg⟩ := ov.edit (unhide Ta).1 (by have h1 := unhide qa; have h2 := unhide Na; omega)
    rw [unhide Na] at hvg
    subst hvg
    have Og2 := hide hEg
    clear hEg ov
    go_wp2_with fail
    refine Calls.mono (norm_at (w := w2) (unhide HU _ (unhide HB2)) (unhide Og2) (unhide Na) (by have := unhide qa; omega) (unhide HSU) (Below.refl w2.heap.size w2)) ?_
    rintro r w3 ⟨⟨v, rfl, ov⟩, hb_⟩
    have HB3 := hide ((unhide HB2).trans (hb_.mono (unhide HB2).size))
    have Og3 := hide ((unhide Og2).call hb_)
    clear Og2
    clear hb_
    have HRE : Hid (rnormL la = normL la) := hide (rnorm_eq la (by have h1 := unhide qa; have h2 := unhide Na; omega))
    have HRS : Hid (sumT (rnormL la) ≤ sumT la) := hide (by have h := rnorm_sum la la.length; rw [List.take_of_length_le (Nat.le_refl _)] at h; exact h)
    have HRL : Hid ((rnormL la).length ≤ 200) := hide (by have h := rnorm_len la la.length; rw [List.take_of_length_le (Nat.le_refl _)] at h; have h1 := unhide qa; have h2 := unhide Na; omega)
    have HRT : Hid (∀ p ∈ rnormL la, p.text.size ≤ 140737488351232) := hide (sumT_txt (by have h1 := unhide HRS; have h2 := unhide HSU0; omega))
    obtain ⟨x, cx, hvx, hEx⟩ := OwnP.edit ov (by rw [← unhide HRE]; exact unhide HRT) (by rw [← unhide HRE]; have := unhide HRL; omega)
    subst hvx
    have Ox3 := hide hEx
    obtain ⟨nx, hnx⟩ : ∃ z, (normL la).length = z := ⟨_, rfl⟩
    rw [hnx]
    have Nx := hide hnx
    clear hEx hnx ov
    go_wp2_with fail
    refine Calls.mono (rnorm_at (w := w3) (unhide Ea _ (unhide HB3)) (unhide Na) (by have := unhide qa; omega) (unhide HSU) (Below.refl w3.heap.size w3)) ?_
    rintro r w4 ⟨⟨v, rfl, ov⟩, hb_⟩
    have HB4 := hide ((unhide HB3).trans (hb_.mono (unhide HB3).size))
    have Og4 := hide ((unhide Og3).call hb_)
    clear Og3
    have Ox4 := hide ((unhide Ox3).call hb_)
    clear Ox3
    clear hb_
    rw [unhide HRE] at ov
    obtain ⟨y, cy, hvy, hEy⟩ := OwnP.edit ov (by rw [← unhide HRE]; exact unhide HRT) (by rw [← unhide HRE]; have := unhide HRL; omega)
    rw [unhide Nx] at hvy
    subst hvy
    have Oy4 := hide hEy
    clear hEy ov
    go_wp2_with fail
    refine Calls.mono (rsame_at (w := w4) (unhide Ox4) (unhide Oy4) rfl (unhide Nx) (unhide Nx) (Below.refl w4.heap.size w4)) ?_
    rintro r w5 ⟨rfl, hb_⟩
    have HB5 := hide ((unhide HB4).trans (hb_.mono (unhide HB4).size))
    have Og5 := hide ((unhide Og4).call hb_)
    clear Og4
    have Ox5 := hide ((unhide Ox4).call hb_)
    clear Ox4
    have Oy5 := hide ((unhide Oy4).call hb_)
    clear Oy4
    clear hb_
    go_wp2_with fail
    refine Calls.mono (equal_at (w := w5) (unhide Og5) (unhide Ea _ (unhide HB5)) (unhide Na) (Below.refl w5.heap.size w5)) ?_
    rintro r w6 ⟨rfl, hb_⟩
    have HB6 := hide ((unhide HB5).trans (hb_.mono (unhide HB5).size))
    have Og6 := hide ((unhide Og5).call hb_)
    clear Og5
    have Ox6 := hide ((unhide Ox5).call hb_)
    clear Ox5
    have Oy6 := hide ((unhide Oy5).call hb_)
    clear Oy5
    clear hb_
    go_wp2_with fail
    refine Calls.mono (awake_any _ (unhide HU _ (unhide HB6))) ?_
    rintro r wa ⟨rfl, hba⟩
    have HBa := hide ((unhide HB6).trans (hba.mono (unhide HB6).size))
    clear hba
    go_wp2_with fail
    go_ret
    exact ⟨rfl, unhide HBa⟩
end Go.Proofs.YtidblnjohkadhaaDoor
