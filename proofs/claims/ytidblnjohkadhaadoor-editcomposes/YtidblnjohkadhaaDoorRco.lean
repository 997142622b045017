/- Two edits as one: the walk of the document's own Compose. -/
import Derived.Test.YtidblnjohkadhaaDoorClo
import Derived.Test.YtidblnjohkadhaaDoorRcu
namespace Go.Proofs.YtidblnjohkadhaaDoor
set_option linter.unusedVariables false
set_option linter.unusedSimpArgs false
open Go.ChangeShapes Go.WideShapes Go.ChangeAt Go.RowKit Go.Joins Go.Deep

/-- a wide edit that is being made, ahead of all that is older -/
structure ZW (wA wr : World) (gP gD gW n m : Nat) (P : List (List (List UInt8))) (D : List Bool) (at_ : Nat) (x : List At) : Prop where
  wd : Wd wr wA.heap.size (.slice (some ⟨gP, 0, none⟩) m m) (.slice (some ⟨gD, 0, none⟩) n n) P D
  bx : RowAt wr gW 88 [.slice (some ⟨gP, 0, none⟩) m m, .slice (some ⟨gD, 0, none⟩) n n]
  gx : wA.heap.size ≤ gW
  sp : SpI n P D at_ x
  bel : Below wA.heap.size wA wr
theorem ZW.call {w wr wr' : World} {gP gD gW n m : Nat} {P : List (List (List UInt8))} {D : List Bool} {at_ : Nat} {x : List At} (h : ZW w wr gP gD gW n m P D at_ x) (hb : Below wr.heap.size wr wr') : ZW w wr' gP gD gW n m P D at_ x :=
  ⟨h.wd.call hb, h.bx.below hb h.bx.lt, h.gx, h.sp, h.bel.trans (hb.mono h.bel.size)⟩
theorem ZW.put {w wr : World} {gP gD gW n m : Nat} {P : List (List (List UInt8))} {D : List Bool} {at_ : Nat} {x : List At} (h : ZW w wr gP gD gW n m P D at_ x) (hm : n + 1 = m) {q cs : List (List UInt8)} (hq : P[at_]? = some q) (hc : Cps cs) : ZW w (wr.setCell ⟨gP, at_, none⟩ (.string (txB (q ++ cs)))) gP gD gW n m (P.set at_ (q ++ cs)) D at_ (x ++ cs.map .p) := by
  have hl : P.length = m := by rw [h.sp.pl, hm]
  have wd := h.wd
  rw [← hl] at wd
  have h1 := wd.set_p at_ (q ++ cs) (List.getElem?_eq_some_iff.1 hq).1
  rw [hl] at h1
  obtain ⟨x1, -⟩ := h.wd.row_ne h.bx (by decide) (by decide)
  have e1 : gP ≠ gW := fun e => x1 (by rw [e]; rfl)
  have hP : w.heap.size ≤ gP := by
    obtain ⟨g, c, e, _, _, hB, _⟩ := h.wd.rd_p hq
    cases e; exact hB
  have ho : Only (fun k => k = gP) wr (wr.setCell ⟨gP, at_, none⟩ (.string (txB (q ++ cs)))) := (Only.refl _ _).set gP at_ _ rfl
  exact ⟨h1, h.bx.only ho (fun e => e1 e.symm), h.gx, h.sp.put hq hc, h.bel.setCell (by show w.heap.size ≤ gP; exact hP) _⟩
theorem ZW.step {w wr : World} {gP gD gW n m : Nat} {P : List (List (List UInt8))} {D : List Bool} {at_ : Nat} {x : List At} (h : ZW w wr gP gD gW n m P D at_ x) (ha : at_ < n) (b : Bool) : ZW w (wr.setCell ⟨gD, at_, none⟩ (.bool b)) gP gD gW n m P (D.set at_ b) (at_ + 1) (x ++ [stp b]) := by
  have hl := h.sp.dl
  have wd := h.wd
  rw [← hl] at wd
  have h1 := wd.set_d at_ b (by omega)
  rw [hl] at h1
  obtain ⟨-, x1⟩ := h.wd.row_ne h.bx (by decide) (by decide)
  have e1 : gD ≠ gW := fun e => x1 (by rw [e]; rfl)
  have hP : w.heap.size ≤ gD := by
    obtain ⟨g, c, e, _, _, hB, _⟩ := h.wd.rd_d (List.getElem?_eq_getElem (show at_ < D.length by omega))
    cases e; exact hB
  have ho : Only (fun k => k = gD) wr (wr.setCell ⟨gD, at_, none⟩ (.bool b)) := (Only.refl _ _).set gD at_ _ rfl
  exact ⟨h1, h.bx.only ho (fun e => e1 e.symm), h.gx, h.sp.step ha b, h.bel.setCell (by show w.heap.size ≤ gD; exact hP) _⟩
theorem Mkd.zw {wA wm : World} {n m gP gD gW : Nat} (h : Mkd wA wm n gP gD gW) (hm : n + 1 = m) : ZW wA wm gP gD gW n m (List.replicate m []) (List.replicate n false) 0 [] := by
  subst hm
  exact ⟨h.wd, h.x, h.gx, SpI.start n, h.bel⟩
/-- where what is put lies -/
theorem ZW.at_ {w wr : World} {gP gD gW n m : Nat} {P : List (List (List UInt8))} {D : List Bool} {at_ : Nat} {x : List At} (h : ZW w wr gP gD gW n m P D at_ x) {M : Nat} (hM : x.length ≤ M) : ∃ q, P[at_]? = some q ∧ Cps q ∧ (txB q).size ≤ 4 * M ∧ wr.cell? ⟨gP, at_, none⟩ = some (.string (txB q)) ∧ wr.frozen? ⟨gP, at_, none⟩ = false ∧ gP < wr.heap.size := by
  obtain ⟨q, h1, h2⟩ := h.sp.eq
  have hc := h.sp.cps q (List.mem_of_getElem? h1)
  have hl := congrArg List.length h2
  rw [List.length_append, List.length_map] at hl
  have := txB_le hc
  obtain ⟨g, c, e, _, _, _, hlt, _⟩ := h.wd.rd_p h1
  cases e
  exact ⟨q, h1, hc, by omega, (h.wd.cp h1).1, (h.wd.cp h1).2, hlt⟩
theorem WdL.split {P : List (List (List UInt8))} {D : List Bool} {n : Nat} {x : List At} (h : WdL P D n x) {i : Nat} (hi : i ≤ n) {q : List (List UInt8)} (hq : P[i]? = some q) : ∃ R, wAts (P.drop i) (D.drop i) = q.map .p ++ R ∧ (i < n → ∃ b, D[i]? = some b ∧ R = stp b :: wAts (P.drop (i + 1)) (D.drop (i + 1))) ∧ (i = n → R = []) := by
  by_cases e : i < n
  · obtain ⟨b, hb⟩ := h.dr e
    exact ⟨_, wAts_drop hq hb, fun _ => ⟨b, hb, rfl⟩, fun k => by omega⟩
  · obtain rfl : i = D.length := by rw [h.dl]; omega
    exact ⟨[], by rw [wAts_last (by rw [h.pl, h.dl]) hq, List.append_nil], fun k => by rw [h.dl] at k; omega, fun _ => rfl⟩
theorem to_stp (b : Bool) (x : List At) : At.toN (stp b :: x) = (if b then 0 else 1) + At.toN x := by cases b <;> simp [stp, At.toN] <;> omega
theorem cm_char {x R T : List At} {YP : List (List (List UInt8))} {YD : List Bool} {q yq : List (List UInt8)} {j aj : Nat} {c : List UInt8} {yb : Bool} (hc : q[j]? = some c) (hy : YP[aj]? = some yq) (hb : YD[aj]? = some yb) (h : x ++ At.comp ((q.drop j).map .p ++ R) (wAts (YP.drop aj) (YD.drop aj)) = T) : (x ++ yq.map .p ++ (kp yb c).map .p) ++ At.comp ((q.drop (j + 1)).map .p ++ R) (wAts (YP.drop (aj + 1)) (YD.drop (aj + 1))) = T := by
  have h1 := List.getElem?_eq_some_iff.1 hc
  rw [List.drop_eq_getElem_cons h1.1, h1.2, wAts_drop hy hb, List.map_cons, List.cons_append, compW_p] at h
  rw [← h, List.map_append]
  simp only [List.append_assoc]
theorem cm_keep {x R T : List At} {YP : List (List (List UInt8))} {YD : List Bool} {yq : List (List UInt8)} {aj : Nat} {yb : Bool} (hy : YP[aj]? = some yq) (hb : YD[aj]? = some yb) (h : x ++ At.comp (stp false :: R) (wAts (YP.drop aj) (YD.drop aj)) = T) : (x ++ yq.map .p ++ [stp yb]) ++ At.comp R (wAts (YP.drop (aj + 1)) (YD.drop (aj + 1))) = T := by
  rw [wAts_drop hy hb, show stp false = At.k from rfl, compW_k] at h
  rw [← h]
  simp only [List.append_assoc, List.cons_append, List.nil_append]
theorem cm_drop {x R Y T : List At} (h : x ++ At.comp (stp true :: R) Y = T) : (x ++ [stp true]) ++ At.comp R Y = T := by
  rw [← h, show stp true = At.d from rfl, At.comp, List.append_assoc]
  rfl
theorem cm_end {x T : List At} {YP : List (List (List UInt8))} {YD : List Bool} {d : Nat} {y : List At} {yq : List (List UInt8)} (hy : WdL YP YD d y) (hq : YP[d]? = some yq) (h : x ++ At.comp [] (wAts (YP.drop d) (YD.drop d)) = T) : x ++ yq.map .p = T := by
  have h1 := wAts_last (by rw [hy.pl, hy.dl]) (by rw [hy.dl]; exact hq)
  rw [hy.dl] at h1
  rw [h1, At.comp] at h
  exact h
theorem at_to (x : List At) : At.toN x ≤ x.length := by
  induction x with
  | nil => simp [At.toN]
  | cons s x ih => cases s <;> simp only [List.length_cons, At.toN] <;> omega
theorem app_le {x y T : List At} (h : x ++ y = T) {M : Nat} (hM : T.length ≤ M) : x.length ≤ M := by
  have := congrArg List.length h
  rw [List.length_append] at this
  omega
theorem spread_ed {a : Option Addr} {l : List Pt} {c n t : Nat} {W : World} (he : Edit W a l c) (hd : IsEd l n t) (hc : l.length ≤ 4194304) : Calls Tryd.prog 70 #[.slice a l.length c, .int .i64 (n : Int)] W fun r w' => ∃ gP gD m P D, n + 1 = m ∧ r = .returned (.agg #[.slice (some ⟨gP, 0, none⟩) m m, .slice (some ⟨gD, 0, none⟩) n n]) ∧ Wd w' W.heap.size (.slice (some ⟨gP, 0, none⟩) m m) (.slice (some ⟨gD, 0, none⟩) n n) P D ∧ WdL P D n (atomsL l) ∧ Below W.heap.size W w' := Calls.mono (spread_any a l c n t W he.pts hd hc) (by
    rintro r w' ⟨gP, gD, m, P, D, h1, h2, h3, h4, h5, h6, h7, h8⟩
    exact ⟨gP, gD, m, P, D, h1, h2, h3, ⟨h4, h5, h6, h7⟩, h8⟩)
set_option maxRecDepth 100000 in
set_option maxHeartbeats 4000000 in
theorem rcompose_ed (a b : Option Addr) (la lb : List Pt) (ca cb : Nat) (n d t : Nat) (w : World) (ea : Edit w a la ca) (eb : Edit w b lb cb) (ha : IsEd la n d) (hb : IsEd lb d t) (hn : n ≤ 4096) (hd : d ≤ 4096) (ht : t ≤ 4096) (hla : la.length ≤ 4194304) (hlb : lb.length ≤ 4194304) :
    Calls Tryd.prog 45 #[.slice a la.length ca, .slice b lb.length cb] w fun r w' => ∃ v L, r = .returned (.tuple #[v, .int .i64 0]) ∧ OwnP w' w.heap.size v L ∧ NfG 0 L ∧ atomsL L = At.can (At.comp (atomsL la) (atomsL lb)) ∧ Below w.heap.size w w' := by
  have HSA := hide (rsize_at (w := w) ea rfl (Below.refl _ _))
  have HSB : Hid (∀ W, Below w.heap.size w W → Calls Tryd.prog 24 #[.slice b lb.length cb] W fun r w' => r = .returned (szVal lb) ∧ Below W.heap.size W w') := hide (fun W hW => rsize_at (w := W) (eb.call hW) rfl (Below.refl _ _))
  have e : szVal la = .tuple #[.int .i64 (n : Int), .int .i64 (d : Int), .int .i64 0] := by unfold szVal; rw [ed_size ha]
  have f : szVal lb = .tuple #[.int .i64 (d : Int), .int .i64 (t : Int), .int .i64 0] := by unfold szVal; rw [ed_size hb]
  rw [e] at HSA
  rw [f] at HSB
  have HPA := hide (fun W (hW : Below w.heap.size w W) => spread_ed (ea.call hW) ha hla)
  have HPB := hide (fun W (hW : Below w.heap.size w W) => spread_ed (eb.call hW) hb hlb)
  obtain ⟨TT, hTT⟩ : ∃ z, At.comp (atomsL la) (atomsL lb) = z := ⟨_, rfl⟩
  have HTL : Hid (TT.length ≤ 8192) := hide (by
    have h1 := at_len TT
    rw [← hTT, At.comp_from _ _ (by rw [ha.2.2.1, hb.2.1]), At.comp_to _ _ (by rw [ha.2.2.1, hb.2.1]), ha.2.1, hb.2.2.1] at h1
    rw [← hTT]
    omega)
  have HTT := hide hTT
  have HTO : Hid (At.toN (atomsL la) = d) := hide ha.2.2.1
  have HTB : Hid (At.toN (atomsL lb) = t) := hide hb.2.2.1
  rw [hTT]
  obtain ⟨na, hna⟩ : ∃ z, la.length = z := ⟨_, rfl⟩
  obtain ⟨nb, hnb⟩ : ∃ z, lb.length = z := ⟨_, rfl⟩
  rw [hna] at HSA HPA ⊢
  rw [hnb] at HSB HPB ⊢
  have HN := hide hn
  have HD := hide hd
  have HT := hide ht
  have HN40 : Hid (n ≤ 1099511627776) := hide (by omega)
  have hw1 : IntKind.i64.wrap ((n : Int) + 1) = ((n + 1 : Nat) : Int) := by rw [IntKind.wrap_i64] <;> omega
  clear ea eb ha hb hn hd ht hla hlb hTT hna hnb e f
  go_enter Tryd.func45, Tryd.ntmps45
  go_wp2_with fail
  refine Calls.mono (unhide HSA) ?_
  rintro r w1 ⟨rfl, hb1⟩
  have HB1 := hide hb1
  clear hb1 HSA
  go_wp2_with fail
  refine Calls.mono (unhide HSB _ (unhide HB1)) ?_
  rintro r w2 ⟨rfl, hb2⟩
  have HB2 := hide ((unhide HB1).trans (hb2.mono (unhide HB1).size))
  clear hb2 HSB HB1
  go_wp2_with fail
  refine Calls.mono (unhide HPA _ (unhide HB2)) ?_
  rintro r w3 ⟨xP, xD, m, XP, XD, hm, rfl, hxd, hxl, hb3⟩
  have HM := hide hm
  have HB3 := hide ((unhide HB2).trans (hb3.mono (unhide HB2).size))
  have HXL := hide hxl
  have HX3 := hide (hxd.base (unhide HB2).size)
  clear hb3 HPA hm hxd hxl HB2
  go_wp2_with fail
  refine Calls.mono (unhide HPB _ (unhide HB3)) ?_
  rintro r w4 ⟨yP, yD, k, YP, YD, hk, rfl, hyd, hyl, hb4⟩
  have HK := hide hk
  have HB4 := hide ((unhide HB3).trans (hb4.mono (unhide HB3).size))
  have HYL := hide hyl
  have HY4 := hide (hyd.base (unhide HB3).size)
  have HX4 := hide ((unhide HX3).call hb4)
  clear hb4 HPB hk hyd hyl HB3 HX3
  have HX5 := hide (WdX.box (w := w) (unhide HX4))
  have hba : Below w4.heap.size w4 (w4.alloc (.cells #[.slice (some ⟨xP, 0, none⟩) m m, .slice (some ⟨xD, 0, none⟩) n n] 88)) := (Below.refl _ _).alloc (Nat.le_refl _) _
  have HY5 := hide ((unhide HY4).call hba)
  have HB5 := hide ((unhide HB4).trans (hba.mono (unhide HB4).size))
  have HBE := hide hba
  clear hba HX4 HY4
  go_wp2_with fail
  obtain ⟨wA, hA⟩ : ∃ z, (w4.alloc (.cells #[.slice (some ⟨xP, 0, none⟩) m m, .slice (some ⟨xD, 0, none⟩) n n] 88)).alloc (.cells #[.slice (some ⟨yP, 0, none⟩) k k, .slice (some ⟨yD, 0, none⟩) d d] 88) = z := ⟨_, rfl⟩
  obtain ⟨gX, hgX⟩ : ∃ z, w4.heap.size = z := ⟨_, rfl⟩
  obtain ⟨gY, hgY⟩ : ∃ z, gX + 1 = z := ⟨_, rfl⟩
  have HXA : Hid (∀ W, Below wA.heap.size wA W → WdX w W xP xD gX n m XP XD) := hide (fun W hW => by
    have h1 := unhide HX5
    rw [hgX] at h1
    have h2 := h1.call ((Below.refl _ _).alloc (Nat.le_refl _) (.cells #[.slice (some ⟨yP, 0, none⟩) k k, .slice (some ⟨yD, 0, none⟩) d d] 88))
    rw [hA] at h2
    exact h2.call hW)
  have HYA : Hid (∀ W, Below wA.heap.size wA W → WdX w W yP yD gY d k YP YD) := hide (fun W hW => by
    have h1 := WdX.box (w := w) (unhide HY5)
    rw [hA, size_alloc, hgX, hgY] at h1
    exact h1.call hW)
  have HBA : Hid (Below w.heap.size w wA) := hide (by rw [← hA]; exact (unhide HB5).alloc (unhide HB5).size _)
  simp only [hA, hgX, hgY]
  clear hA hgX hgY HX5 HY5 HB5 HB4 HBE
  refine reg_post (fun a_ w_ => ∃ gP gD gW, a_ = ({ tmps := #[.slice a na ca, .slice b nb cb, undef, undef, .slice none 0 0, .int .i64 0, .int .i64 (n : Int), .int .i64 (d : Int), .int .i64 0, .int .i64 (d : Int), .int .i64 (t : Int), .int .i64 0, .pointer (some ⟨gX, 0, none⟩), .pointer (some ⟨gY, 0, none⟩), .pointer (some ⟨gW, 0, none⟩), undef, undef, undef, undef, .tuple #[.int .i64 (n : Int), .int .i64 (d : Int), .int .i64 0], .slice a na ca, .tuple #[.int .i64 (n : Int), .int .i64 (d : Int), .int .i64 0], .int .i64 (n : Int), .int .i64 (d : Int), .int .i64 0, .tuple #[.int .i64 (d : Int), .int .i64 (t : Int), .int .i64 0], .slice b nb cb, .tuple #[.int .i64 (d : Int), .int .i64 (t : Int), .int .i64 0], .int .i64 (d : Int), .int .i64 (t : Int), .int .i64 0, .int .i64 0, .bool false, .bool false, .int .i64 0, .bool false, .bool false, .bool false, .int .i64 (d : Int), .int .i64 (d : Int), .bool false, .bool false, .slice a na ca, .int .i64 (n : Int), .agg #[.slice (some ⟨xP, 0, none⟩) m m, .slice (some ⟨xD, 0, none⟩) n n], .slice b nb cb, .int .i64 (d : Int), .agg #[.slice (some ⟨yP, 0, none⟩) k k, .slice (some ⟨yD, 0, none⟩) d d], .int .i64 (n : Int), .int .i64 ((n + 1 : Nat) : Int), .slice (some ⟨gP, 0, none⟩) (n + 1) (n + 1), .int .i64 (n : Int), .slice (some ⟨gD, 0, none⟩) n n, .agg #[.slice (some ⟨gP, 0, none⟩) (n + 1) (n + 1), .slice (some ⟨gD, 0, none⟩) n n], undef, undef, undef, undef, undef, undef, undef, undef, undef, undef, undef, undef, undef, undef, undef, undef, undef, undef, undef, undef, undef, undef, undef, undef, undef, undef, undef, undef, undef, undef, undef, undef, undef, undef, undef, undef, undef, undef, undef, undef, undef, undef, undef, undef, undef, undef, undef, undef, undef, undef, undef, undef, undef, undef, undef, undef, undef, undef, undef, undef, undef, undef, undef, undef, undef, undef, undef, undef, undef, undef, undef, undef, undef, undef, undef, undef, undef, undef, undef, undef, undef, undef, undef, undef, undef, undef, undef, undef, undef, undef, undef, undef, undef, undef, undef, undef, undef, undef, undef, undef, undef, undef, undef, undef, undef, undef, undef], defers := [] } : Act) ∧ Mkd wA w_ n gP gD gW) ?_ ?_
  · refine wp_region_T (S := fun _ => True) (fun i => decide (i < 8)) (by kernel_rfl) trivial (fun hHeld => ?_)
    refine wpAnyT_take (i := 0) (oi := { dst := some 48, op := Op.move (Operand.tmp 6), type := 3, pos := "ref.go:244", after := #[], guard := none }) (v := .int .i64 (n : Int)) rfl (by kernel_rfl) (by kernel_rfl) (by kernel_rfl) (by kernel_rfl) (fun _ _ _ h => by cases h.1) (Or.inl ⟨by rfl, ?_⟩) hHeld ?_
    · intro w hSw
      first
        | rfl
        | (go_simp; done)
    try simp only [Act.put, List.setIfInBounds_toArray, List.set_cons_zero, List.set_cons_succ]
    refine wpAnyT_take (i := 1) (oi := { dst := some 49, op := Op.binOp BinOp.add 3 (Operand.tmp 48) (Operand.const (Value.int IntKind.i64 1)) 3, type := 3, pos := "ref.go:244", after := #[{ on := 0, ground := Ground.data }], guard := none }) (v := .int .i64 ((n + 1 : Nat) : Int)) rfl (by kernel_rfl) (by kernel_rfl) (by kernel_rfl) (by kernel_rfl) (fun _ _ _ h => by cases h.1) (Or.inl ⟨by rfl, ?_⟩) hHeld ?_
    · intro w hSw
      go_simp
      try simp only [hw1]
      try trivial
      try rfl
    try simp only [Act.put, List.setIfInBounds_toArray, List.set_cons_zero, List.set_cons_succ]
    refine wpAnyT_take (i := 3) (oi := { dst := some 51, op := Op.move (Operand.tmp 6), type := 3, pos := "ref.go:244", after := #[], guard := none }) (v := .int .i64 (n : Int)) rfl (by kernel_rfl) (by kernel_rfl) (by kernel_rfl) (by kernel_rfl) (fun _ _ _ h => by cases h.1) (Or.inl ⟨by rfl, ?_⟩) hHeld ?_
    · intro w hSw
      first
        | rfl
        | (go_simp; done)
    try simp only [Act.put, List.setIfInBounds_toArray, List.set_cons_zero, List.set_cons_succ]
    have HM0 := hide (Mk3.start wA n)
    refine anyT_three (i := 2) (j := 4) (l := 6) (oi := { dst := some 50, op := Op.makeSlice 85 (Operand.tmp 49) (Operand.tmp 49), type := 85, pos := "ref.go:244", after := #[{ on := 1, ground := Ground.data }, { on := 1, ground := Ground.data }], guard := none }) (oj := { dst := some 52, op := Op.makeSlice 86 (Operand.tmp 51) (Operand.tmp 51), type := 86, pos := "ref.go:244", after := #[{ on := 3, ground := Ground.data }, { on := 3, ground := Ground.data }], guard := none }) (ol := { dst := some 14, op := Op.alloc 88, type := 0, pos := "ref.go:244", after := #[], guard := none }) (by kernel_rfl) rfl rfl rfl (fun K hK => ?_) (fun K hK => ?_) (fun K hK => ?_)
    · rw [if_pos (by rfl)]
      refine (unhide HM0).wpP _ _ rfl rfl rfl (unhide HN40) (fun gP wk1 hm => ?_)
      have HM1 := hide hm
      refine hK.out _ _ (fun _ => trivial) ?_
      clear hK K hm HM0
      try simp only [Act.put, List.setIfInBounds_toArray, List.set_cons_zero, List.set_cons_succ]
      refine anyU_two (i := 4) (j := 6) (oi := { dst := some 52, op := Op.makeSlice 86 (Operand.tmp 51) (Operand.tmp 51), type := 86, pos := "ref.go:244", after := #[{ on := 3, ground := Ground.data }, { on := 3, ground := Ground.data }], guard := none }) (oj := { dst := some 14, op := Op.alloc 88, type := 0, pos := "ref.go:244", after := #[], guard := none }) (by kernel_rfl) rfl rfl (fun K hK => ?_) (fun K hK => ?_)
      · rw [if_pos (by rfl)]
        refine (unhide HM1).wpD _ _ rfl rfl rfl (unhide HN40) (fun gD wk2 hm => ?_)
        have HM2 := hide hm
        refine hK.out _ _ (fun _ => trivial) ?_
        clear hK K hm HM1
        try simp only [Act.put, List.setIfInBounds_toArray, List.set_cons_zero, List.set_cons_succ]
        refine wpAnyT_take (i := 5) (oi := { dst := some 53, op := Op.build 88 #[(0, Operand.tmp 50), (1, Operand.tmp 52)], type := 88, pos := "ref.go:244", after := #[{ on := 2, ground := Ground.data }, { on := 4, ground := Ground.data }], guard := none }) (v := .agg #[.slice (some ⟨gP, 0, none⟩) (n + 1) (n + 1), .slice (some ⟨gD, 0, none⟩) n n]) rfl (by kernel_rfl) (by kernel_rfl) (by kernel_rfl) (by kernel_rfl) (fun _ _ _ h => by cases h.1) (Or.inl ⟨by rfl, ?_⟩) trivial ?_
        · intro w hSw
          first
            | rfl
            | (go_simp; done)
        try simp only [Act.put, List.setIfInBounds_toArray, List.set_cons_zero, List.set_cons_succ]
        refine wpAnyT_one (i := 6) (o := { dst := some 14, op := Op.alloc 88, type := 0, pos := "ref.go:244", after := #[], guard := none }) (by kernel_rfl) rfl (fun K hK => ?_)
        rw [if_pos (by rfl)]
        refine (unhide HM2).wpX rfl (fun gW wk3 hm => ?_)
        have HM3 := hide hm
        refine hK.out _ _ (fun _ => trivial) ?_
        clear hK K hm HM2
        try simp only [Act.put, List.setIfInBounds_toArray, List.set_cons_zero, List.set_cons_succ]
        have HMS := hide ((unhide HM3).store (unhide HN40))
        have fr0 := ((unhide HM3).x gW rfl).1.frozen 0
        have fr1 := ((unhide HM3).x gW rfl).1.frozen 1
        have xc0 : wk3.cell? ⟨gW, 0, none⟩ = some (.slice none 0 0) := ((unhide HM3).x gW rfl).1.cell 0
        have xc1 : wk3.cell? ⟨gW, 1, none⟩ = some (.slice none 0 0) := ((unhide HM3).x gW rfl).1.cell 1
        refine wpAnyT_one (i := 7) (o := { dst := none, op := Op.store 88 (Operand.tmp 14) (Operand.tmp 53), type := 0, pos := "ref.go:244", after := #[{ on := 6, ground := Ground.data }, { on := 5, ground := Ground.data }, { on := 0, ground := Ground.phase }, { on := 1, ground := Ground.phase }, { on := 2, ground := Ground.phase }, { on := 3, ground := Ground.phase }, { on := 4, ground := Ground.phase }, { on := 5, ground := Ground.phase }, { on := 6, ground := Ground.phase }], guard := none }) (by kernel_rfl) rfl (fun K hK => ?_)
        go_simp
        refine hK.out _ _ (fun _ => trivial) ?_
        clear hK K
        try simp only [Act.put, List.setIfInBounds_toArray, List.set_cons_zero, List.set_cons_succ]
        refine wpAnyT_done (by kernel_rfl) ?_ _
        exact ⟨rfl, gP, gD, gW, rfl, unhide HMS⟩
      · rw [if_pos (by rfl)]
        refine (unhide HM1).wpX rfl (fun gW wk2 hm => ?_)
        have HM2 := hide hm
        refine hK.out _ _ (fun _ => trivial) ?_
        clear hK K hm HM1
        try simp only [Act.put, List.setIfInBounds_toArray, List.set_cons_zero, List.set_cons_succ]
        refine wpAnyT_one (i := 4) (o := { dst := some 52, op := Op.makeSlice 86 (Operand.tmp 51) (Operand.tmp 51), type := 86, pos := "ref.go:244", after := #[{ on := 3, ground := Ground.data }, { on := 3, ground := Ground.data }], guard := none }) (by kernel_rfl) rfl (fun K hK => ?_)
        rw [if_pos (by rfl)]
        refine (unhide HM2).wpD _ _ rfl rfl rfl (unhide HN40) (fun gD wk3 hm => ?_)
        have HM3 := hide hm
        refine hK.out _ _ (fun _ => trivial) ?_
        clear hK K hm HM2
        try simp only [Act.put, List.setIfInBounds_toArray, List.set_cons_zero, List.set_cons_succ]
        refine wpAnyT_take (i := 5) (oi := { dst := some 53, op := Op.build 88 #[(0, Operand.tmp 50), (1, Operand.tmp 52)], type := 88, pos := "ref.go:244", after := #[{ on := 2, ground := Ground.data }, { on := 4, ground := Ground.data }], guard := none }) (v := .agg #[.slice (some ⟨gP, 0, none⟩) (n + 1) (n + 1), .slice (some ⟨gD, 0, none⟩) n n]) rfl (by kernel_rfl) (by kernel_rfl) (by kernel_rfl) (by kernel_rfl) (fun _ _ _ h => by cases h.1) (Or.inl ⟨by rfl, ?_⟩) trivial ?_
        · intro w hSw
          first
            | rfl
            | (go_simp; done)
        try simp only [Act.put, List.setIfInBounds_toArray, List.set_cons_zero, List.set_cons_succ]
        have HMS := hide ((unhide HM3).store (unhide HN40))
        have fr0 := ((unhide HM3).x gW rfl).1.frozen 0
        have fr1 := ((unhide HM3).x gW rfl).1.frozen 1
        have xc0 : wk3.cell? ⟨gW, 0, none⟩ = some (.slice none 0 0) := ((unhide HM3).x gW rfl).1.cell 0
        have xc1 : wk3.cell? ⟨gW, 1, none⟩ = some (.slice none 0 0) := ((unhide HM3).x gW rfl).1.cell 1
        refine wpAnyT_one (i := 7) (o := { dst := none, op := Op.store 88 (Operand.tmp 14) (Operand.tmp 53), type := 0, pos := "ref.go:244", after := #[{ on := 6, ground := Ground.data }, { on := 5, ground := Ground.data }, { on := 0, ground := Ground.phase }, { on := 1, ground := Ground.phase }, { on := 2, ground := Ground.phase }, { on := 3, ground := Ground.phase }, { on := 4, ground := Ground.phase }, { on := 5, ground := Ground.phase }, { on := 6, ground := Ground.phase }], guard := none }) (by kernel_rfl) rfl (fun K hK => ?_)
        go_simp
        refine hK.out _ _ (fun _ => trivial) ?_
        clear hK K
        try simp only [Act.put, List.setIfInBounds_toArray, List.set_cons_zero, List.set_cons_succ]
        refine wpAnyT_done (by kernel_rfl) ?_ _
        exact ⟨rfl, gP, gD, gW, rfl, unhide HMS⟩
    · rw [if_pos (by rfl)]
      refine (unhide HM0).wpD _ _ rfl rfl rfl (unhide HN40) (fun gD wk1 hm => ?_)
      have HM1 := hide hm
      refine hK.out _ _ (fun _ => trivial) ?_
      clear hK K hm HM0
      try simp only [Act.put, List.setIfInBounds_toArray, List.set_cons_zero, List.set_cons_succ]
      refine anyU_two (i := 2) (j := 6) (oi := { dst := some 50, op := Op.makeSlice 85 (Operand.tmp 49) (Operand.tmp 49), type := 85, pos := "ref.go:244", after := #[{ on := 1, ground := Ground.data }, { on := 1, ground := Ground.data }], guard := none }) (oj := { dst := some 14, op := Op.alloc 88, type := 0, pos := "ref.go:244", after := #[], guard := none }) (by kernel_rfl) rfl rfl (fun K hK => ?_) (fun K hK => ?_)
      · rw [if_pos (by rfl)]
        refine (unhide HM1).wpP _ _ rfl rfl rfl (unhide HN40) (fun gP wk2 hm => ?_)
        have HM2 := hide hm
        refine hK.out _ _ (fun _ => trivial) ?_
        clear hK K hm HM1
        try simp only [Act.put, List.setIfInBounds_toArray, List.set_cons_zero, List.set_cons_succ]
        refine wpAnyT_take (i := 5) (oi := { dst := some 53, op := Op.build 88 #[(0, Operand.tmp 50), (1, Operand.tmp 52)], type := 88, pos := "ref.go:244", after := #[{ on := 2, ground := Ground.data }, { on := 4, ground := Ground.data }], guard := none }) (v := .agg #[.slice (some ⟨gP, 0, none⟩) (n + 1) (n + 1), .slice (some ⟨gD, 0, none⟩) n n]) rfl (by kernel_rfl) (by kernel_rfl) (by kernel_rfl) (by kernel_rfl) (fun _ _ _ h => by cases h.1) (Or.inl ⟨by rfl, ?_⟩) trivial ?_
        · intro w hSw
          first
            | rfl
            | (go_simp; done)
        try simp only [Act.put, List.setIfInBounds_toArray, List.set_cons_zero, List.set_cons_succ]
        refine wpAnyT_one (i := 6) (o := { dst := some 14, op := Op.alloc 88, type := 0, pos := "ref.go:244", after := #[], guard := none }) (by kernel_rfl) rfl (fun K hK => ?_)
        rw [if_pos (by rfl)]
        refine (unhide HM2).wpX rfl (fun gW wk3 hm => ?_)
        have HM3 := hide hm
        refine hK.out _ _ (fun _ => trivial) ?_
        clear hK K hm HM2
        try simp only [Act.put, List.setIfInBounds_toArray, List.set_cons_zero, List.set_cons_succ]
        have HMS := hide ((unhide HM3).store (unhide HN40))
        have fr0 := ((unhide HM3).x gW rfl).1.frozen 0
        have fr1 := ((unhide HM3).x gW rfl).1.frozen 1
        have xc0 : wk3.cell? ⟨gW, 0, none⟩ = some (.slice none 0 0) := ((unhide HM3).x gW rfl).1.cell 0
        have xc1 : wk3.cell? ⟨gW, 1, none⟩ = some (.slice none 0 0) := ((unhide HM3).x gW rfl).1.cell 1
        refine wpAnyT_one (i := 7) (o := { dst := none, op := Op.store 88 (Operand.tmp 14) (Operand.tmp 53), type := 0, pos := "ref.go:244", after := #[{ on := 6, ground := Ground.data }, { on := 5, ground := Ground.data }, { on := 0, ground := Ground.phase }, { on := 1, ground := Ground.phase }, { on := 2, ground := Ground.phase }, { on := 3, ground := Ground.phase }, { on := 4, ground := Ground.phase }, { on := 5, ground := Ground.phase }, { on := 6, ground := Ground.phase }], guard := none }) (by kernel_rfl) rfl (fun K hK => ?_)
        go_simp
        refine hK.out _ _ (fun _ => trivial) ?_
        clear hK K
        try simp only [Act.put, List.setIfInBounds_toArray, List.set_cons_zero, List.set_cons_succ]
        refine wpAnyT_done (by kernel_rfl) ?_ _
        exact ⟨rfl, gP, gD, gW, rfl, unhide HMS⟩
      · rw [if_pos (by rfl)]
        refine (unhide HM1).wpX rfl (fun gW wk2 hm => ?_)
        have HM2 := hide hm
        refine hK.out _ _ (fun _ => trivial) ?_
        clear hK K hm HM1
        try simp only [Act.put, List.setIfInBounds_toArray, List.set_cons_zero, List.set_cons_succ]
        refine wpAnyT_one (i := 2) (o := { dst := some 50, op := Op.makeSlice 85 (Operand.tmp 49) (Operand.tmp 49), type := 85, pos := "ref.go:244", after := #[{ on := 1, ground := Ground.data }, { on := 1, ground := Ground.data }], guard := none }) (by kernel_rfl) rfl (fun K hK => ?_)
        rw [if_pos (by rfl)]
        refine (unhide HM2).wpP _ _ rfl rfl rfl (unhide HN40) (fun gP wk3 hm => ?_)
        have HM3 := hide hm
        refine hK.out _ _ (fun _ => trivial) ?_
        clear hK K hm HM2
        try simp only [Act.put, List.setIfInBounds_toArray, List.set_cons_zero, List.set_cons_succ]
        refine wpAnyT_take (i := 5) (oi := { dst := some 53, op := Op.build 88 #[(0, Operand.tmp 50), (1, Operand.tmp 52)], type := 88, pos := "ref.go:244", after := #[{ on := 2, ground := Ground.data }, { on := 4, ground := Ground.data }], guard := none }) (v := .agg #[.slice (some ⟨gP, 0, none⟩) (n + 1) (n + 1), .slice (some ⟨gD, 0, none⟩) n n]) rfl (by kernel_rfl) (by kernel_rfl) (by kernel_rfl) (by kernel_rfl) (fun _ _ _ h => by cases h.1) (Or.inl ⟨by rfl, ?_⟩) trivial ?_
        · intro w hSw
          first
            | rfl
            | (go_simp; done)
        try simp only [Act.put, List.setIfInBounds_toArray, List.set_cons_zero, List.set_cons_succ]
        have HMS := hide ((unhide HM3).store (unhide HN40))
        have fr0 := ((unhide HM3).x gW rfl).1.frozen 0
        have fr1 := ((unhide HM3).x gW rfl).1.frozen 1
        have xc0 : wk3.cell? ⟨gW, 0, none⟩ = some (.slice none 0 0) := ((unhide HM3).x gW rfl).1.cell 0
        have xc1 : wk3.cell? ⟨gW, 1, none⟩ = some (.slice none 0 0) := ((unhide HM3).x gW rfl).1.cell 1
        refine wpAnyT_one (i := 7) (o := { dst := none, op := Op.store 88 (Operand.tmp 14) (Operand.tmp 53), type := 0, pos := "ref.go:244", after := #[{ on := 6, ground := Ground.data }, { on := 5, ground := Ground.data }, { on := 0, ground := Ground.phase }, { on := 1, ground := Ground.phase }, { on := 2, ground := Ground.phase }, { on := 3, ground := Ground.phase }, { on := 4, ground := Ground.phase }, { on := 5, ground := Ground.phase }, { on := 6, ground := Ground.phase }], guard := none }) (by kernel_rfl) rfl (fun K hK => ?_)
        go_simp
        refine hK.out _ _ (fun _ => trivial) ?_
        clear hK K
        try simp only [Act.put, List.setIfInBounds_toArray, List.set_cons_zero, List.set_cons_succ]
        refine wpAnyT_done (by kernel_rfl) ?_ _
        exact ⟨rfl, gP, gD, gW, rfl, unhide HMS⟩
    · rw [if_pos (by rfl)]
      refine (unhide HM0).wpX rfl (fun gW wk1 hm => ?_)
      have HM1 := hide hm
      refine hK.out _ _ (fun _ => trivial) ?_
      clear hK K hm HM0
      try simp only [Act.put, List.setIfInBounds_toArray, List.set_cons_zero, List.set_cons_succ]
      refine anyU_two (i := 2) (j := 4) (oi := { dst := some 50, op := Op.makeSlice 85 (Operand.tmp 49) (Operand.tmp 49), type := 85, pos := "ref.go:244", after := #[{ on := 1, ground := Ground.data }, { on := 1, ground := Ground.data }], guard := none }) (oj := { dst := some 52, op := Op.makeSlice 86 (Operand.tmp 51) (Operand.tmp 51), type := 86, pos := "ref.go:244", after := #[{ on := 3, ground := Ground.data }, { on := 3, ground := Ground.data }], guard := none }) (by kernel_rfl) rfl rfl (fun K hK => ?_) (fun K hK => ?_)
      · rw [if_pos (by rfl)]
        refine (unhide HM1).wpP _ _ rfl rfl rfl (unhide HN40) (fun gP wk2 hm => ?_)
        have HM2 := hide hm
        refine hK.out _ _ (fun _ => trivial) ?_
        clear hK K hm HM1
        try simp only [Act.put, List.setIfInBounds_toArray, List.set_cons_zero, List.set_cons_succ]
        refine wpAnyT_one (i := 4) (o := { dst := some 52, op := Op.makeSlice 86 (Operand.tmp 51) (Operand.tmp 51), type := 86, pos := "ref.go:244", after := #[{ on := 3, ground := Ground.data }, { on := 3, ground := Ground.data }], guard := none }) (by kernel_rfl) rfl (fun K hK => ?_)
        rw [if_pos (by rfl)]
        refine (unhide HM2).wpD _ _ rfl rfl rfl (unhide HN40) (fun gD wk3 hm => ?_)
        have HM3 := hide hm
        refine hK.out _ _ (fun _ => trivial) ?_
        clear hK K hm HM2
        try simp only [Act.put, List.setIfInBounds_toArray, List.set_cons_zero, List.set_cons_succ]
        refine wpAnyT_take (i := 5) (oi := { dst := some 53, op := Op.build 88 #[(0, Operand.tmp 50), (1, Operand.tmp 52)], type := 88, pos := "ref.go:244", after := #[{ on := 2, ground := Ground.data }, { on := 4, ground := Ground.data }], guard := none }) (v := .agg #[.slice (some ⟨gP, 0, none⟩) (n + 1) (n + 1), .slice (some ⟨gD, 0, none⟩) n n]) rfl (by kernel_rfl) (by kernel_rfl) (by kernel_rfl) (by kernel_rfl) (fun _ _ _ h => by cases h.1) (Or.inl ⟨by rfl, ?_⟩) trivial ?_
        · intro w hSw
          first
            | rfl
            | (go_simp; done)
        try simp only [Act.put, List.setIfInBounds_toArray, List.set_cons_zero, List.set_cons_succ]
        have HMS := hide ((unhide HM3).store (unhide HN40))
        have fr0 := ((unhide HM3).x gW rfl).1.frozen 0
        have fr1 := ((unhide HM3).x gW rfl).1.frozen 1
        have xc0 : wk3.cell? ⟨gW, 0, none⟩ = some (.slice none 0 0) := ((unhide HM3).x gW rfl).1.cell 0
        have xc1 : wk3.cell? ⟨gW, 1, none⟩ = some (.slice none 0 0) := ((unhide HM3).x gW rfl).1.cell 1
        refine wpAnyT_one (i := 7) (o := { dst := none, op := Op.store 88 (Operand.tmp 14) (Operand.tmp 53), type := 0, pos := "ref.go:244", after := #[{ on := 6, ground := Ground.data }, { on := 5, ground := Ground.data }, { on := 0, ground := Ground.phase }, { on := 1, ground := Ground.phase }, { on := 2, ground := Ground.phase }, { on := 3, ground := Ground.phase }, { on := 4, ground := Ground.phase }, { on := 5, ground := Ground.phase }, { on := 6, ground := Ground.phase }], guard := none }) (by kernel_rfl) rfl (fun K hK => ?_)
        go_simp
        refine hK.out _ _ (fun _ => trivial) ?_
        clear hK K
        try simp only [Act.put, List.setIfInBounds_toArray, List.set_cons_zero, List.set_cons_succ]
        refine wpAnyT_done (by kernel_rfl) ?_ _
        exact ⟨rfl, gP, gD, gW, rfl, unhide HMS⟩
      · rw [if_pos (by rfl)]
        refine (unhide HM1).wpD _ _ rfl rfl rfl (unhide HN40) (fun gD wk2 hm => ?_)
        have HM2 := hide hm
        refine hK.out _ _ (fun _ => trivial) ?_
        clear hK K hm HM1
        try simp only [Act.put, List.setIfInBounds_toArray, List.set_cons_zero, List.set_cons_succ]
        refine wpAnyT_one (i := 2) (o := { dst := some 50, op := Op.makeSlice 85 (Operand.tmp 49) (Operand.tmp 49), type := 85, pos := "ref.go:244", after := #[{ on := 1, ground := Ground.data }, { on := 1, ground := Ground.data }], guard := none }) (by kernel_rfl) rfl (fun K hK => ?_)
        rw [if_pos (by rfl)]
        refine (unhide HM2).wpP _ _ rfl rfl rfl (unhide HN40) (fun gP wk3 hm => ?_)
        have HM3 := hide hm
        refine hK.out _ _ (fun _ => trivial) ?_
        clear hK K hm HM2
        try simp only [Act.put, List.setIfInBounds_toArray, List.set_cons_zero, List.set_cons_succ]
        refine wpAnyT_take (i := 5) (oi := { dst := some 53, op := Op.build 88 #[(0, Operand.tmp 50), (1, Operand.tmp 52)], type := 88, pos := "ref.go:244", after := #[{ on := 2, ground := Ground.data }, { on := 4, ground := Ground.data }], guard := none }) (v := .agg #[.slice (some ⟨gP, 0, none⟩) (n + 1) (n + 1), .slice (some ⟨gD, 0, none⟩) n n]) rfl (by kernel_rfl) (by kernel_rfl) (by kernel_rfl) (by kernel_rfl) (fun _ _ _ h => by cases h.1) (Or.inl ⟨by rfl, ?_⟩) trivial ?_
        · intro w hSw
          first
            | rfl
            | (go_simp; done)
        try simp only [Act.put, List.setIfInBounds_toArray, List.set_cons_zero, List.set_cons_succ]
        have HMS := hide ((unhide HM3).store (unhide HN40))
        have fr0 := ((unhide HM3).x gW rfl).1.frozen 0
        have fr1 := ((unhide HM3).x gW rfl).1.frozen 1
        have xc0 : wk3.cell? ⟨gW, 0, none⟩ = some (.slice none 0 0) := ((unhide HM3).x gW rfl).1.cell 0
        have xc1 : wk3.cell? ⟨gW, 1, none⟩ = some (.slice none 0 0) := ((unhide HM3).x gW rfl).1.cell 1
        refine wpAnyT_one (i := 7) (o := { dst := none, op := Op.store 88 (Operand.tmp 14) (Operand.tmp 53), type := 0, pos := "ref.go:244", after := #[{ on := 6, ground := Ground.data }, { on := 5, ground := Ground.data }, { on := 0, ground := Ground.phase }, { on := 1, ground := Ground.phase }, { on := 2, ground := Ground.phase }, { on := 3, ground := Ground.phase }, { on := 4, ground := Ground.phase }, { on := 5, ground := Ground.phase }, { on := 6, ground := Ground.phase }], guard := none }) (by kernel_rfl) rfl (fun K hK => ?_)
        go_simp
        refine hK.out _ _ (fun _ => trivial) ?_
        clear hK K
        try simp only [Act.put, List.setIfInBounds_toArray, List.set_cons_zero, List.set_cons_succ]
        refine wpAnyT_done (by kernel_rfl) ?_ _
        exact ⟨rfl, gP, gD, gW, rfl, unhide HMS⟩
  rintro _ wm ⟨gP, gD, gW, rfl, hmk⟩
  have HMK := hide hmk
  clear hmk
  dsimp only
  rw [unhide HM]
  have HZ0 := hide ((unhide HMK).zw (unhide HM))
  clear HMK hw1
  have nI : (n : Int) ≤ 4096 := by have := unhide HN; omega
  have dI : (d : Int) ≤ 4096 := by have := unhide HD; omega
  go_wp2_with fail
  go_loopw [15, 56] (fun t15 t56 wr => ∃ i at_ : Nat, i ≤ n ∧ t15 = .int .i64 (at_ : Int) ∧ t56 = .int .i64 (i : Int) ∧ Hid (∃ ZP ZD x, ZW wA wr gP gD gW n m ZP ZD i x ∧ x ++ At.comp (wAts (XP.drop i) (XD.drop i)) (wAts (YP.drop at_) (YD.drop at_)) = TT ∧ At.toN (wAts (XP.drop i) (XD.drop i)) + at_ = d)) (fun _ t56 _ => ((n : Int) - intOf t56).toNat)
  case atStart => exact ⟨0, 0, by omega, by simp, by simp, hide ⟨_, _, [], unhide HZ0, by rw [List.drop_zero, List.drop_zero, List.drop_zero, List.drop_zero, (unhide HXL).eq, (unhide HYL).eq, List.nil_append]; exact unhide HTT, by rw [List.drop_zero, List.drop_zero, (unhide HXL).eq]; exact unhide HTO⟩⟩
  case round =>
    obtain ⟨i, at_, hi, rfl, rfl, HZE⟩ := hrel
    obtain ⟨ZP, ZD, x, hz, h1, h2⟩ := unhide HZE
    obtain ⟨q, hq, hcq, hlq⟩ := (unhide HXL).at_ hi
    obtain ⟨R, hR1, hR2, hR3⟩ := (unhide HXL).split hi hq
    rw [hR1] at h1 h2
    rw [At.to_app, to_map] at h2
    have HR2 := hide hR2
    have HR3 := hide hR3
    have HZ := hide hz
    have HE1 := hide h1
    have HE2 := hide h2
    have HQ := hide hq
    have HXW := hide (unhide HXA _ hz.bel)
    have c0 : wr.cell? ⟨gX, 0, none⟩ = some (.slice (some ⟨xP, 0, none⟩) m m) := (unhide HXW).bx.cell 0
    have c2 : wr.cell? ⟨xP, i, none⟩ = some (.string (txB q)) := ((unhide HXW).wd.cp hq).1
    have HCH := hide (chars_row (w := wr) (tx_txB hcq) (by have := unhide HTO; have := unhide HD; omega))
    have HCQ := hide hcq
    obtain ⟨zq0, -, -, -, -, -, hgp⟩ := hz.at_ (app_le h1 (unhide HTL))
    have HGP := hide hgp
    obtain ⟨qn, hqn⟩ : ∃ z, q.length = z := ⟨_, rfl⟩
    have HQN := hide hqn
    have qnI : (qn : Int) ≤ 4096 := by have := unhide HD; omega
    rw [hqn] at HCH HE2
    have iM : (i : Int) < (m : Int) := by have := unhide HM; omega
    have i0 : (0 : Int) ≤ (i : Int) := by omega
    have i1 : (i : Int) < (n : Int) + 1 := by omega
    clear hz h1 h2 hq hcq hlq hR1 hR2 hR3 HZE hgp hqn
    go_wp2_with fail
    refine Calls.mono (unhide HCH) ?_
    rintro r w5 ⟨v, rfl, hv, hb5⟩
    obtain ⟨av, cv, rfl, -, -⟩ := own_sl hv
    have HV := hide hv
    have HZ5 := hide ((unhide HZ).call hb5)
    obtain ⟨B5, hB5⟩ : ∃ z, wr.heap.size = z := ⟨_, rfl⟩
    rw [hB5] at HV HGP
    clear hv hb5 hB5 HZ HXW c0 c2 HCH
    go_wp2_with fail
    go_loopw [15, 66] (fun t15 t66 wr => ∃ j aj : Nat, j ≤ qn ∧ t15 = .int .i64 (aj : Int) ∧ t66 = .int .i64 (j : Int) ∧ Hid (∃ ZP x, ZW wA wr gP gD gW n m ZP ZD i x ∧ x ++ At.comp ((q.drop j).map .p ++ R) (wAts (YP.drop aj) (YD.drop aj)) = TT ∧ (qn - j) + At.toN R + aj = d) ∧ Hid (wr.ownsRow B5 9 1 (.slice av qn cv) qn (sS (q.map fun c => [c])))) (fun _ t66 _ => ((qn : Int) - intOf t66).toNat)
    case atStart => exact ⟨0, at_, by omega, rfl, by simp, hide ⟨ZP, x, unhide HZ5, by rw [List.drop_zero]; exact unhide HE1, by have := unhide HE2; omega⟩, HV⟩
    case round =>
      obtain ⟨j, aj, hj, rfl, rfl, HZE, HV⟩ := hrel
      obtain ⟨ZP, x, hz, h1, h2⟩ := unhide HZE
      have HZ := hide hz
      have HE1 := hide h1
      have HE2 := hide h2
      have HXL8 : Hid (x.length ≤ 8192) := hide (app_le h1 (unhide HTL))
      obtain ⟨yq, hyq, hcy, hly⟩ := (unhide HYL).at_ (show aj ≤ d by omega)
      have HYQ := hide hyq
      have HCY := hide hcy
      have HYZ : Hid ((txB yq).size ≤ 16384) := hide (by have := txB_le hcy; have := unhide HTB; have := unhide HT; omega)
      have HYW := hide (unhide HYA _ hz.bel)
      have aK : (aj : Int) < (k : Int) := by have := unhide HK; omega
      have a0 : (0 : Int) ≤ (aj : Int) := by omega
      have aD : (aj : Int) ≤ (d : Int) := by omega
      clear hz h1 h2 hyq hcy hly HZE
      by_cases hlt : j < qn
      · obtain ⟨c, hc⟩ : ∃ z, q[j]? = some z := ⟨_, List.getElem?_eq_getElem (by rw [unhide HQN]; exact hlt)⟩
        have hjI : (j : Int) < (qn : Int) := by omega
        have had : aj < d := by have := unhide HE2; omega
        have hadI : (aj : Int) < (d : Int) := by omega
        obtain ⟨yb, hyb⟩ := (unhide HYL).dr had
        have HYB := hide hyb
        obtain ⟨gv, cw, hvv, v0, -, hB, hlv, -, -⟩ := own_rd (unhide HV) (sS_at (show (q.map fun c => [c])[j]? = some [c] by rw [List.getElem?_map, hc]; rfl))
        obtain ⟨rfl, -⟩ : av = some ⟨gv, 0, none⟩ ∧ True := by
          injection hvv with h1
          exact ⟨h1, trivial⟩
        have HGV : Hid (gv ≠ gP) := hide (by have := unhide HGP; omega)
        have HCC : Hid (Cps [c]) := hide (fun e he => by rw [List.mem_singleton] at he; rw [he]; exact unhide HCQ c (List.mem_of_getElem? hc))
        have HCZ : Hid ((txB [c]).size ≤ 4) := hide (by have := txB_le (unhide HCC); simpa using this)
        have HNE := hide (cm_char hc (unhide HYQ) hyb (unhide HE1))
        clear hvv hB hlv hc hyb
        go_wp2_with fail
        obtain ⟨zq6, hzq, hzc, hzs, zc, zf, -⟩ := (unhide HZ).at_ (unhide HXL8)
        have HZQ6 := hide hzq
        have hap6 : txB zq6 ++ txB yq = txB (zq6 ++ yq) := txB_app zq6 yq
        have HAP6 := hide hap6
        have hsz6 : (txB zq6).size + (txB yq).size ≤ 9223372036854775807 := by have := unhide HYZ; omega
        have HFZ6 : Hid (wr.drew.frozen? ⟨gP, i, none⟩ = false) := hide zf
        have HCL6 : Hid (wr.drew.cell? ⟨gP, i, none⟩ = some (.string (txB zq6))) := hide zc
        have HS6 : Hid (∀ W, Below wr.heap.size wr W → W.cell? ⟨gW, 0, none⟩ = some (.slice (some ⟨gP, 0, none⟩) m m) ∧ W.cell? ⟨gP, i, none⟩ = some (.string (txB zq6)) ∧ W.cell? ⟨gY, 0, none⟩ = some (.slice (some ⟨yP, 0, none⟩) k k) ∧ W.cell? ⟨yP, aj, none⟩ = some (.string (txB yq))) := hide (fun W hW => ⟨((unhide HZ).call hW).bx.cell 0, (((unhide HZ).call hW).wd.cp (unhide HZQ6)).1, (unhide HYA W ((unhide HZ).bel.trans (hW.mono (unhide HZ).bel.size))).bx.cell 0, ((unhide HYA W ((unhide HZ).bel.trans (hW.mono (unhide HZ).bel.size))).wd.cp (unhide HYQ)).1⟩)
        have HZ6 : Hid (ZW wA (wr.setCell ⟨gP, i, none⟩ (.string (txB (zq6 ++ yq)))).drew gP gD gW n m (ZP.set i (zq6 ++ yq)) ZD i (x ++ yq.map .p)) := hide (((unhide HZ).put (unhide HM) (unhide HZQ6) (unhide HCY)).call (Below.refl _ _).drew)
        clear hzq hzc hzs zc zf hap6
        refine wp_region_T (S := fun W => W.cell? ⟨gW, 0, none⟩ = some (.slice (some ⟨gP, 0, none⟩) m m) ∧ W.cell? ⟨gP, i, none⟩ = some (.string (txB zq6)) ∧ W.cell? ⟨gY, 0, none⟩ = some (.slice (some ⟨yP, 0, none⟩) k k) ∧ W.cell? ⟨yP, aj, none⟩ = some (.string (txB yq))) (fun i => decide (i < 15)) (by kernel_rfl) (unhide HS6 _ (Below.refl _ _).drew) (fun hHeld => ?_)
        refine wpAnyT_take (i := 0) (oi := { dst := some 70, op := Op.fieldAddr 88 (Operand.tmp 14) 0, type := 0, pos := "ref.go:248", after := #[], guard := none }) (v := .pointer (some ⟨gW, 0, none⟩)) rfl (by kernel_rfl) (by kernel_rfl) (by kernel_rfl) (by kernel_rfl) (fun _ _ _ h => h) (Or.inl ⟨by rfl, ?_⟩) hHeld ?_
        · intro w hSw
          obtain ⟨s0, s1, s2, s3⟩ := hSw
          first
            | rfl
            | (go_simp; done)
        try simp only [Act.put, List.setIfInBounds_toArray, List.set_cons_zero, List.set_cons_succ]
        refine wpAnyT_take (i := 1) (oi := { dst := some 71, op := Op.load 85 (Operand.tmp 70), type := 85, pos := "ref.go:248", after := #[{ on := 0, ground := Ground.data }], guard := none }) (v := .slice (some ⟨gP, 0, none⟩) m m) rfl (by kernel_rfl) (by kernel_rfl) (by kernel_rfl) (by kernel_rfl) (fun _ _ _ h => h) (Or.inl ⟨by rfl, ?_⟩) hHeld ?_
        · intro w hSw
          obtain ⟨s0, s1, s2, s3⟩ := hSw
          first
            | rfl
            | (go_simp; done)
        try simp only [Act.put, List.setIfInBounds_toArray, List.set_cons_zero, List.set_cons_succ]
        refine wpAnyT_take (i := 2) (oi := { dst := some 72, op := Op.move (Operand.tmp 16), type := 3, pos := "ref.go:248", after := #[], guard := none }) (v := .int .i64 (i : Int)) rfl (by kernel_rfl) (by kernel_rfl) (by kernel_rfl) (by kernel_rfl) (fun _ _ _ h => h) (Or.inl ⟨by rfl, ?_⟩) hHeld ?_
        · intro w hSw
          obtain ⟨s0, s1, s2, s3⟩ := hSw
          first
            | rfl
            | (go_simp; done)
        try simp only [Act.put, List.setIfInBounds_toArray, List.set_cons_zero, List.set_cons_succ]
        refine wpAnyT_take (i := 3) (oi := { dst := some 73, op := Op.fieldAddr 88 (Operand.tmp 14) 0, type := 0, pos := "ref.go:248", after := #[], guard := none }) (v := .pointer (some ⟨gW, 0, none⟩)) rfl (by kernel_rfl) (by kernel_rfl) (by kernel_rfl) (by kernel_rfl) (fun _ _ _ h => h) (Or.inl ⟨by rfl, ?_⟩) hHeld ?_
        · intro w hSw
          obtain ⟨s0, s1, s2, s3⟩ := hSw
          first
            | rfl
            | (go_simp; done)
        try simp only [Act.put, List.setIfInBounds_toArray, List.set_cons_zero, List.set_cons_succ]
        refine wpAnyT_take (i := 4) (oi := { dst := some 74, op := Op.load 85 (Operand.tmp 73), type := 85, pos := "ref.go:248", after := #[{ on := 3, ground := Ground.data }], guard := none }) (v := .slice (some ⟨gP, 0, none⟩) m m) rfl (by kernel_rfl) (by kernel_rfl) (by kernel_rfl) (by kernel_rfl) (fun _ _ _ h => h) (Or.inl ⟨by rfl, ?_⟩) hHeld ?_
        · intro w hSw
          obtain ⟨s0, s1, s2, s3⟩ := hSw
          first
            | rfl
            | (go_simp; done)
        try simp only [Act.put, List.setIfInBounds_toArray, List.set_cons_zero, List.set_cons_succ]
        refine wpAnyT_take (i := 5) (oi := { dst := some 75, op := Op.move (Operand.tmp 16), type := 3, pos := "ref.go:248", after := #[], guard := none }) (v := .int .i64 (i : Int)) rfl (by kernel_rfl) (by kernel_rfl) (by kernel_rfl) (by kernel_rfl) (fun _ _ _ h => h) (Or.inl ⟨by rfl, ?_⟩) hHeld ?_
        · intro w hSw
          obtain ⟨s0, s1, s2, s3⟩ := hSw
          first
            | rfl
            | (go_simp; done)
        try simp only [Act.put, List.setIfInBounds_toArray, List.set_cons_zero, List.set_cons_succ]
        refine wpAnyT_take (i := 6) (oi := { dst := some 76, op := Op.indexAddr 85 (Operand.tmp 74) (Operand.tmp 75), type := 0, pos := "ref.go:248", after := #[{ on := 4, ground := Ground.data }, { on := 5, ground := Ground.data }], guard := none }) (v := .pointer (some ⟨gP, i, none⟩)) rfl (by kernel_rfl) (by kernel_rfl) (by kernel_rfl) (by kernel_rfl) (fun _ _ _ h => h) (Or.inl ⟨by rfl, ?_⟩) hHeld ?_
        · intro w hSw
          obtain ⟨s0, s1, s2, s3⟩ := hSw
          first
            | rfl
            | (go_simp; done)
        try simp only [Act.put, List.setIfInBounds_toArray, List.set_cons_zero, List.set_cons_succ]
        refine wpAnyT_take (i := 7) (oi := { dst := some 77, op := Op.load 9 (Operand.tmp 76), type := 9, pos := "ref.go:248", after := #[{ on := 6, ground := Ground.data }], guard := none }) (v := .string (txB zq6)) rfl (by kernel_rfl) (by kernel_rfl) (by kernel_rfl) (by kernel_rfl) (fun _ _ _ h => h) (Or.inl ⟨by rfl, ?_⟩) hHeld ?_
        · intro w hSw
          obtain ⟨s0, s1, s2, s3⟩ := hSw
          first
            | rfl
            | (go_simp; done)
        try simp only [Act.put, List.setIfInBounds_toArray, List.set_cons_zero, List.set_cons_succ]
        refine wpAnyT_take (i := 8) (oi := { dst := some 78, op := Op.fieldAddr 88 (Operand.tmp 13) 0, type := 0, pos := "ref.go:248", after := #[], guard := none }) (v := .pointer (some ⟨gY, 0, none⟩)) rfl (by kernel_rfl) (by kernel_rfl) (by kernel_rfl) (by kernel_rfl) (fun _ _ _ h => h) (Or.inl ⟨by rfl, ?_⟩) hHeld ?_
        · intro w hSw
          obtain ⟨s0, s1, s2, s3⟩ := hSw
          first
            | rfl
            | (go_simp; done)
        try simp only [Act.put, List.setIfInBounds_toArray, List.set_cons_zero, List.set_cons_succ]
        refine wpAnyT_take (i := 9) (oi := { dst := some 79, op := Op.load 85 (Operand.tmp 78), type := 85, pos := "ref.go:248", after := #[{ on := 8, ground := Ground.data }], guard := none }) (v := .slice (some ⟨yP, 0, none⟩) k k) rfl (by kernel_rfl) (by kernel_rfl) (by kernel_rfl) (by kernel_rfl) (fun _ _ _ h => h) (Or.inl ⟨by rfl, ?_⟩) hHeld ?_
        · intro w hSw
          obtain ⟨s0, s1, s2, s3⟩ := hSw
          first
            | rfl
            | (go_simp; done)
        try simp only [Act.put, List.setIfInBounds_toArray, List.set_cons_zero, List.set_cons_succ]
        refine wpAnyT_take (i := 10) (oi := { dst := some 80, op := Op.move (Operand.tmp 15), type := 3, pos := "ref.go:248", after := #[], guard := none }) (v := .int .i64 (aj : Int)) rfl (by kernel_rfl) (by kernel_rfl) (by kernel_rfl) (by kernel_rfl) (fun _ _ _ h => h) (Or.inl ⟨by rfl, ?_⟩) hHeld ?_
        · intro w hSw
          obtain ⟨s0, s1, s2, s3⟩ := hSw
          first
            | rfl
            | (go_simp; done)
        try simp only [Act.put, List.setIfInBounds_toArray, List.set_cons_zero, List.set_cons_succ]
        refine wpAnyT_take (i := 11) (oi := { dst := some 81, op := Op.indexAddr 85 (Operand.tmp 79) (Operand.tmp 80), type := 0, pos := "ref.go:248", after := #[{ on := 9, ground := Ground.data }, { on := 10, ground := Ground.data }], guard := none }) (v := .pointer (some ⟨yP, aj, none⟩)) rfl (by kernel_rfl) (by kernel_rfl) (by kernel_rfl) (by kernel_rfl) (fun _ _ _ h => h) (Or.inl ⟨by rfl, ?_⟩) hHeld ?_
        · intro w hSw
          obtain ⟨s0, s1, s2, s3⟩ := hSw
          first
            | rfl
            | (go_simp; done)
        try simp only [Act.put, List.setIfInBounds_toArray, List.set_cons_zero, List.set_cons_succ]
        refine wpAnyT_take (i := 12) (oi := { dst := some 82, op := Op.load 9 (Operand.tmp 81), type := 9, pos := "ref.go:248", after := #[{ on := 11, ground := Ground.data }], guard := none }) (v := .string (txB yq)) rfl (by kernel_rfl) (by kernel_rfl) (by kernel_rfl) (by kernel_rfl) (fun _ _ _ h => h) (Or.inl ⟨by rfl, ?_⟩) hHeld ?_
        · intro w hSw
          obtain ⟨s0, s1, s2, s3⟩ := hSw
          first
            | rfl
            | (go_simp; done)
        try simp only [Act.put, List.setIfInBounds_toArray, List.set_cons_zero, List.set_cons_succ]
        refine wpAnyT_take (i := 13) (oi := { dst := some 83, op := Op.binOp BinOp.add 9 (Operand.tmp 77) (Operand.tmp 82) 9, type := 9, pos := "ref.go:248", after := #[{ on := 7, ground := Ground.data }, { on := 12, ground := Ground.data }], guard := none }) (v := .string (txB (zq6 ++ yq))) rfl (by kernel_rfl) (by kernel_rfl) (by kernel_rfl) (by kernel_rfl) (fun _ _ _ h => h) (Or.inl ⟨by rfl, ?_⟩) hHeld ?_
        · intro w hSw
          obtain ⟨s0, s1, s2, s3⟩ := hSw
          rw [← unhide HAP6]
          first
            | rfl
            | (go_simp; done)
        try simp only [Act.put, List.setIfInBounds_toArray, List.set_cons_zero, List.set_cons_succ]
        refine wpAnyT_take (i := 14) (oi := { dst := some 84, op := Op.indexAddr 85 (Operand.tmp 71) (Operand.tmp 72), type := 0, pos := "ref.go:248", after := #[{ on := 1, ground := Ground.data }, { on := 2, ground := Ground.data }, { on := 0, ground := Ground.phase }, { on := 1, ground := Ground.phase }, { on := 2, ground := Ground.phase }, { on := 3, ground := Ground.phase }, { on := 4, ground := Ground.phase }, { on := 5, ground := Ground.phase }, { on := 6, ground := Ground.phase }, { on := 7, ground := Ground.phase }, { on := 8, ground := Ground.phase }, { on := 9, ground := Ground.phase }, { on := 10, ground := Ground.phase }, { on := 11, ground := Ground.phase }, { on := 12, ground := Ground.phase }, { on := 13, ground := Ground.phase }], guard := none }) (v := .pointer (some ⟨gP, i, none⟩)) rfl (by kernel_rfl) (by kernel_rfl) (by kernel_rfl) (by kernel_rfl) (fun _ _ _ h => h) (Or.inl ⟨by rfl, ?_⟩) hHeld ?_
        · intro w hSw
          obtain ⟨s0, s1, s2, s3⟩ := hSw
          first
            | rfl
            | (go_simp; done)
        try simp only [Act.put, List.setIfInBounds_toArray, List.set_cons_zero, List.set_cons_succ]
        refine wpAnyT_one (i := 15) (o := { dst := none, op := Op.store 9 (Operand.tmp 84) (Operand.tmp 83), type := 0, pos := "ref.go:248", after := #[{ on := 14, ground := Ground.data }, { on := 13, ground := Ground.data }, { on := 0, ground := Ground.phase }, { on := 1, ground := Ground.phase }, { on := 2, ground := Ground.phase }, { on := 3, ground := Ground.phase }, { on := 4, ground := Ground.phase }, { on := 5, ground := Ground.phase }, { on := 6, ground := Ground.phase }, { on := 7, ground := Ground.phase }, { on := 8, ground := Ground.phase }, { on := 9, ground := Ground.phase }, { on := 10, ground := Ground.phase }, { on := 11, ground := Ground.phase }, { on := 12, ground := Ground.phase }, { on := 13, ground := Ground.phase }], guard := none }) (by kernel_rfl) rfl (fun K hK => ?_)
        have fz := unhide HFZ6
        have cl := unhide HCL6
        go_simp
        refine hK.out _ _ (fun h => by cases h) ?_
        clear hK K
        try simp only [Act.put, List.setIfInBounds_toArray, List.set_cons_zero, List.set_cons_succ]
        refine wpAnyT_done (by kernel_rfl) ?_ _
        obtain ⟨w6, hw6⟩ : ∃ z, (wr.setCell ⟨gP, i, none⟩ (.string (txB (zq6 ++ yq)))).drew = z := ⟨_, rfl⟩
        simp only [hw6] at HZ6 ⊢
        clear HS6 HFZ6 HCL6
        have HV6 : Hid (w6.ownsRow B5 9 1 (.slice (some ⟨gv, 0, none⟩) qn cv) qn (sS (q.map fun c => [c]))) := hide (by rw [← hw6]; exact own_call (own_set_other (unhide HV) (by intro e; exact unhide HGV (by simpa [Value.ownBlock] using e))) (Below.refl _ _).drew)
        clear hw6 HV
        have HY6 := hide (unhide HYA _ (unhide HZ6).bel)
        have d0 : w6.cell? ⟨gY, 1, none⟩ = some (.slice (some ⟨yD, 0, none⟩) d d) := (unhide HY6).bx.cell 1
        have d1 : w6.cell? ⟨yD, aj, none⟩ = some (.bool yb) := ((unhide HY6).wd.cd (unhide HYB)).1
        clear HZ HY6 HYW v0
        cases yb with
        | true =>
          go_wp2_with fail
          refine ⟨⟨j + 1, aj + 1, by omega, by simp, by simp, hide ⟨_, _, unhide HZ6, ?_, ?_⟩, HV6⟩, by simp [intOf]; omega⟩
          · have h := unhide HNE
            rw [show (kp true c).map At.p = [] from rfl, List.append_nil] at h
            exact h
          · have := unhide HE2; omega
        | false =>
          go_wp2_with fail
          have HXL8 : Hid ((x ++ yq.map At.p).length ≤ 8192) := hide (by have h := unhide HNE; rw [List.append_assoc] at h; exact app_le h (unhide HTL))
          obtain ⟨zq7, hzq, hzc, hzs, zc, zf, -⟩ := (unhide HZ6).at_ (unhide HXL8)
          have HZQ7 := hide hzq
          have hap7 : txB zq7 ++ txB [c] = txB (zq7 ++ [c]) := txB_app zq7 [c]
          have HAP7 := hide hap7
          have hsz7 : (txB zq7).size + (txB [c]).size ≤ 9223372036854775807 := by have := unhide HCZ; omega
          have HFZ7 : Hid (w6.drew.frozen? ⟨gP, i, none⟩ = false) := hide zf
          have HCL7 : Hid (w6.drew.cell? ⟨gP, i, none⟩ = some (.string (txB zq7))) := hide zc
          have HS7 : Hid (∀ W, Below w6.heap.size w6 W → W.cell? ⟨gW, 0, none⟩ = some (.slice (some ⟨gP, 0, none⟩) m m) ∧ W.cell? ⟨gP, i, none⟩ = some (.string (txB zq7))) := hide (fun W hW => ⟨((unhide HZ6).call hW).bx.cell 0, (((unhide HZ6).call hW).wd.cp (unhide HZQ7)).1⟩)
          have HZ7 : Hid (ZW wA (w6.setCell ⟨gP, i, none⟩ (.string (txB (zq7 ++ [c])))).drew gP gD gW n m ((ZP.set i (zq6 ++ yq)).set i (zq7 ++ [c])) ZD i ((x ++ yq.map .p) ++ [c].map .p)) := hide (((unhide HZ6).put (unhide HM) (unhide HZQ7) (unhide HCC)).call (Below.refl _ _).drew)
          clear hzq hzc hzs zc zf hap7
          refine wp_region_T (S := fun W => W.cell? ⟨gW, 0, none⟩ = some (.slice (some ⟨gP, 0, none⟩) m m) ∧ W.cell? ⟨gP, i, none⟩ = some (.string (txB zq7))) (fun i => decide (i < 11)) (by kernel_rfl) (unhide HS7 _ (Below.refl _ _).drew) (fun hHeld => ?_)
          refine wpAnyT_take (i := 0) (oi := { dst := some 91, op := Op.fieldAddr 88 (Operand.tmp 14) 0, type := 0, pos := "ref.go:250", after := #[], guard := none }) (v := .pointer (some ⟨gW, 0, none⟩)) rfl (by kernel_rfl) (by kernel_rfl) (by kernel_rfl) (by kernel_rfl) (fun _ _ _ h => h) (Or.inl ⟨by rfl, ?_⟩) hHeld ?_
          · intro w hSw
            obtain ⟨s0, s1⟩ := hSw
            first
              | rfl
              | (go_simp; done)
          try simp only [Act.put, List.setIfInBounds_toArray, List.set_cons_zero, List.set_cons_succ]
          refine wpAnyT_take (i := 1) (oi := { dst := some 92, op := Op.load 85 (Operand.tmp 91), type := 85, pos := "ref.go:250", after := #[{ on := 0, ground := Ground.data }], guard := none }) (v := .slice (some ⟨gP, 0, none⟩) m m) rfl (by kernel_rfl) (by kernel_rfl) (by kernel_rfl) (by kernel_rfl) (fun _ _ _ h => h) (Or.inl ⟨by rfl, ?_⟩) hHeld ?_
          · intro w hSw
            obtain ⟨s0, s1⟩ := hSw
            first
              | rfl
              | (go_simp; done)
          try simp only [Act.put, List.setIfInBounds_toArray, List.set_cons_zero, List.set_cons_succ]
          refine wpAnyT_take (i := 2) (oi := { dst := some 93, op := Op.move (Operand.tmp 16), type := 3, pos := "ref.go:250", after := #[], guard := none }) (v := .int .i64 (i : Int)) rfl (by kernel_rfl) (by kernel_rfl) (by kernel_rfl) (by kernel_rfl) (fun _ _ _ h => h) (Or.inl ⟨by rfl, ?_⟩) hHeld ?_
          · intro w hSw
            obtain ⟨s0, s1⟩ := hSw
            first
              | rfl
              | (go_simp; done)
          try simp only [Act.put, List.setIfInBounds_toArray, List.set_cons_zero, List.set_cons_succ]
          refine wpAnyT_take (i := 3) (oi := { dst := some 94, op := Op.fieldAddr 88 (Operand.tmp 14) 0, type := 0, pos := "ref.go:250", after := #[], guard := none }) (v := .pointer (some ⟨gW, 0, none⟩)) rfl (by kernel_rfl) (by kernel_rfl) (by kernel_rfl) (by kernel_rfl) (fun _ _ _ h => h) (Or.inl ⟨by rfl, ?_⟩) hHeld ?_
          · intro w hSw
            obtain ⟨s0, s1⟩ := hSw
            first
              | rfl
              | (go_simp; done)
          try simp only [Act.put, List.setIfInBounds_toArray, List.set_cons_zero, List.set_cons_succ]
          refine wpAnyT_take (i := 4) (oi := { dst := some 95, op := Op.load 85 (Operand.tmp 94), type := 85, pos := "ref.go:250", after := #[{ on := 3, ground := Ground.data }], guard := none }) (v := .slice (some ⟨gP, 0, none⟩) m m) rfl (by kernel_rfl) (by kernel_rfl) (by kernel_rfl) (by kernel_rfl) (fun _ _ _ h => h) (Or.inl ⟨by rfl, ?_⟩) hHeld ?_
          · intro w hSw
            obtain ⟨s0, s1⟩ := hSw
            first
              | rfl
              | (go_simp; done)
          try simp only [Act.put, List.setIfInBounds_toArray, List.set_cons_zero, List.set_cons_succ]
          refine wpAnyT_take (i := 5) (oi := { dst := some 96, op := Op.move (Operand.tmp 16), type := 3, pos := "ref.go:250", after := #[], guard := none }) (v := .int .i64 (i : Int)) rfl (by kernel_rfl) (by kernel_rfl) (by kernel_rfl) (by kernel_rfl) (fun _ _ _ h => h) (Or.inl ⟨by rfl, ?_⟩) hHeld ?_
          · intro w hSw
            obtain ⟨s0, s1⟩ := hSw
            first
              | rfl
              | (go_simp; done)
          try simp only [Act.put, List.setIfInBounds_toArray, List.set_cons_zero, List.set_cons_succ]
          refine wpAnyT_take (i := 6) (oi := { dst := some 97, op := Op.indexAddr 85 (Operand.tmp 95) (Operand.tmp 96), type := 0, pos := "ref.go:250", after := #[{ on := 4, ground := Ground.data }, { on := 5, ground := Ground.data }], guard := none }) (v := .pointer (some ⟨gP, i, none⟩)) rfl (by kernel_rfl) (by kernel_rfl) (by kernel_rfl) (by kernel_rfl) (fun _ _ _ h => h) (Or.inl ⟨by rfl, ?_⟩) hHeld ?_
          · intro w hSw
            obtain ⟨s0, s1⟩ := hSw
            first
              | rfl
              | (go_simp; done)
          try simp only [Act.put, List.setIfInBounds_toArray, List.set_cons_zero, List.set_cons_succ]
          refine wpAnyT_take (i := 7) (oi := { dst := some 98, op := Op.load 9 (Operand.tmp 97), type := 9, pos := "ref.go:250", after := #[{ on := 6, ground := Ground.data }], guard := none }) (v := .string (txB zq7)) rfl (by kernel_rfl) (by kernel_rfl) (by kernel_rfl) (by kernel_rfl) (fun _ _ _ h => h) (Or.inl ⟨by rfl, ?_⟩) hHeld ?_
          · intro w hSw
            obtain ⟨s0, s1⟩ := hSw
            first
              | rfl
              | (go_simp; done)
          try simp only [Act.put, List.setIfInBounds_toArray, List.set_cons_zero, List.set_cons_succ]
          refine wpAnyT_take (i := 8) (oi := { dst := some 99, op := Op.move (Operand.tmp 18), type := 9, pos := "ref.go:250", after := #[], guard := none }) (v := .string (txB [c])) rfl (by kernel_rfl) (by kernel_rfl) (by kernel_rfl) (by kernel_rfl) (fun _ _ _ h => h) (Or.inl ⟨by rfl, ?_⟩) hHeld ?_
          · intro w hSw
            obtain ⟨s0, s1⟩ := hSw
            first
              | rfl
              | (go_simp; done)
          try simp only [Act.put, List.setIfInBounds_toArray, List.set_cons_zero, List.set_cons_succ]
          refine wpAnyT_take (i := 9) (oi := { dst := some 100, op := Op.binOp BinOp.add 9 (Operand.tmp 98) (Operand.tmp 99) 9, type := 9, pos := "ref.go:250", after := #[{ on := 7, ground := Ground.data }, { on := 8, ground := Ground.data }], guard := none }) (v := .string (txB (zq7 ++ [c]))) rfl (by kernel_rfl) (by kernel_rfl) (by kernel_rfl) (by kernel_rfl) (fun _ _ _ h => h) (Or.inl ⟨by rfl, ?_⟩) hHeld ?_
          · intro w hSw
            obtain ⟨s0, s1⟩ := hSw
            rw [← unhide HAP7]
            first
              | rfl
              | (go_simp; done)
          try simp only [Act.put, List.setIfInBounds_toArray, List.set_cons_zero, List.set_cons_succ]
          refine wpAnyT_take (i := 10) (oi := { dst := some 101, op := Op.indexAddr 85 (Operand.tmp 92) (Operand.tmp 93), type := 0, pos := "ref.go:250", after := #[{ on := 1, ground := Ground.data }, { on := 2, ground := Ground.data }, { on := 0, ground := Ground.phase }, { on := 1, ground := Ground.phase }, { on := 2, ground := Ground.phase }, { on := 3, ground := Ground.phase }, { on := 4, ground := Ground.phase }, { on := 5, ground := Ground.phase }, { on := 6, ground := Ground.phase }, { on := 7, ground := Ground.phase }, { on := 8, ground := Ground.phase }, { on := 9, ground := Ground.phase }], guard := none }) (v := .pointer (some ⟨gP, i, none⟩)) rfl (by kernel_rfl) (by kernel_rfl) (by kernel_rfl) (by kernel_rfl) (fun _ _ _ h => h) (Or.inl ⟨by rfl, ?_⟩) hHeld ?_
          · intro w hSw
            obtain ⟨s0, s1⟩ := hSw
            first
              | rfl
              | (go_simp; done)
          try simp only [Act.put, List.setIfInBounds_toArray, List.set_cons_zero, List.set_cons_succ]
          refine wpAnyT_one (i := 11) (o := { dst := none, op := Op.store 9 (Operand.tmp 101) (Operand.tmp 100), type := 0, pos := "ref.go:250", after := #[{ on := 10, ground := Ground.data }, { on := 9, ground := Ground.data }, { on := 0, ground := Ground.phase }, { on := 1, ground := Ground.phase }, { on := 2, ground := Ground.phase }, { on := 3, ground := Ground.phase }, { on := 4, ground := Ground.phase }, { on := 5, ground := Ground.phase }, { on := 6, ground := Ground.phase }, { on := 7, ground := Ground.phase }, { on := 8, ground := Ground.phase }, { on := 9, ground := Ground.phase }], guard := none }) (by kernel_rfl) rfl (fun K hK => ?_)
          have fz := unhide HFZ7
          have cl := unhide HCL7
          go_simp
          refine hK.out _ _ (fun h => by cases h) ?_
          clear hK K
          try simp only [Act.put, List.setIfInBounds_toArray, List.set_cons_zero, List.set_cons_succ]
          refine wpAnyT_done (by kernel_rfl) ?_ _
          obtain ⟨w7, hw7⟩ : ∃ z, (w6.setCell ⟨gP, i, none⟩ (.string (txB (zq7 ++ [c])))).drew = z := ⟨_, rfl⟩
          simp only [hw7] at HZ7 ⊢
          clear HS7 HFZ7 HCL7
          have HV7 : Hid (w7.ownsRow B5 9 1 (.slice (some ⟨gv, 0, none⟩) qn cv) qn (sS (q.map fun c => [c]))) := hide (by rw [← hw7]; exact own_call (own_set_other (unhide HV6) (by intro e; exact unhide HGV (by simpa [Value.ownBlock] using e))) (Below.refl _ _).drew)
          clear hw7 HV6
          go_wp2_with fail
          refine ⟨⟨j + 1, aj + 1, by omega, by simp, by simp, hide ⟨_, _, unhide HZ7, unhide HNE, ?_⟩, HV7⟩, by simp [intOf]; omega⟩
          have := unhide HE2; omega
      · obtain rfl : qn = j := by omega
        have HE1 : Hid (x ++ At.comp R (wAts (YP.drop aj) (YD.drop aj)) = TT) := hide (by have h := unhide HE1; rw [List.drop_of_length_le (by rw [unhide HQN]; exact Nat.le_refl _), List.map_nil, List.nil_append] at h; exact h)
        have HE2 : Hid (At.toN R + aj = d) := hide (by have h := unhide HE2; omega)
        clear HV
        by_cases hin : i < n
        · obtain ⟨b_, hb_, hRb⟩ := unhide HR2 hin
          have HXB := hide (unhide HXA _ (unhide HZ).bel)
          have x0 : wr.cell? ⟨gX, 1, none⟩ = some (.slice (some ⟨xD, 0, none⟩) n n) := (unhide HXB).bx.cell 1
          have x1 : wr.cell? ⟨xD, i, none⟩ = some (.bool b_) := ((unhide HXB).wd.cd hb_).1
          have hinI : (i : Int) < (n : Int) := by omega
          have hne : ((i : Int) == (n : Int)) = false := by
            have : ¬ (i : Int) = (n : Int) := by omega
            simpa using this
          rw [hRb] at HE1 HE2
          rw [to_stp] at HE2
          clear hb_ hRb
          cases b_ with
          | true =>
            obtain ⟨zb, hzb⟩ : ∃ z, ZD[i]? = some z := ⟨_, List.getElem?_eq_getElem (by have := (unhide HZ).sp.dl; omega)⟩
            have fz := ((unhide HZ).wd.cd hzb).2
            have cl := ((unhide HZ).wd.cd hzb).1
            have z0 : wr.cell? ⟨gW, 1, none⟩ = some (.slice (some ⟨gD, 0, none⟩) n n) := (unhide HZ).bx.cell 1
            have HNX := hide ((unhide HZ).step hin true)
            have HNE := hide (cm_drop (unhide HE1))
            clear hzb
            go_wp2_with fail
            refine ⟨⟨i + 1, aj, by omega, rfl, by simp, hide ⟨ZP, ZD.set i true, x ++ [stp true], unhide HNX, unhide HNE, ?_⟩⟩, by simp [intOf]; omega⟩
            have := unhide HE2
            simp at this
            exact this
          | false =>
            have had : aj < d := by have := unhide HE2; simp at this; omega
            have hadI : (aj : Int) < (d : Int) := by omega
            obtain ⟨yb, hyb⟩ := (unhide HYL).dr had
            have HYB := hide hyb
            have HNE := hide (cm_keep (unhide HYQ) hyb (unhide HE1))
            clear hyb
            go_wp2_with fail
            obtain ⟨zq8, hzq, hzc, hzs, zc, zf, -⟩ := (unhide HZ).at_ (unhide HXL8)
            have HZQ8 := hide hzq
            have hap8 : txB zq8 ++ txB yq = txB (zq8 ++ yq) := txB_app zq8 yq
            have HAP8 := hide hap8
            have hsz8 : (txB zq8).size + (txB yq).size ≤ 9223372036854775807 := by have := unhide HYZ; omega
            have HFZ8 : Hid (wr.drew.frozen? ⟨gP, i, none⟩ = false) := hide zf
            have HCL8 : Hid (wr.drew.cell? ⟨gP, i, none⟩ = some (.string (txB zq8))) := hide zc
            have HS8 : Hid (∀ W, Below wr.heap.size wr W → W.cell? ⟨gW, 0, none⟩ = some (.slice (some ⟨gP, 0, none⟩) m m) ∧ W.cell? ⟨gP, i, none⟩ = some (.string (txB zq8)) ∧ W.cell? ⟨gY, 0, none⟩ = some (.slice (some ⟨yP, 0, none⟩) k k) ∧ W.cell? ⟨yP, aj, none⟩ = some (.string (txB yq))) := hide (fun W hW => ⟨((unhide HZ).call hW).bx.cell 0, (((unhide HZ).call hW).wd.cp (unhide HZQ8)).1, (unhide HYA W ((unhide HZ).bel.trans (hW.mono (unhide HZ).bel.size))).bx.cell 0, ((unhide HYA W ((unhide HZ).bel.trans (hW.mono (unhide HZ).bel.size))).wd.cp (unhide HYQ)).1⟩)
            have HZ8 : Hid (ZW wA (wr.setCell ⟨gP, i, none⟩ (.string (txB (zq8 ++ yq)))).drew gP gD gW n m (ZP.set i (zq8 ++ yq)) ZD i (x ++ yq.map .p)) := hide (((unhide HZ).put (unhide HM) (unhide HZQ8) (unhide HCY)).call (Below.refl _ _).drew)
            clear hzq hzc hzs zc zf hap8
            refine wp_region_T (S := fun W => W.cell? ⟨gW, 0, none⟩ = some (.slice (some ⟨gP, 0, none⟩) m m) ∧ W.cell? ⟨gP, i, none⟩ = some (.string (txB zq8)) ∧ W.cell? ⟨gY, 0, none⟩ = some (.slice (some ⟨yP, 0, none⟩) k k) ∧ W.cell? ⟨yP, aj, none⟩ = some (.string (txB yq))) (fun i => decide (i < 15)) (by kernel_rfl) (unhide HS8 _ (Below.refl _ _).drew) (fun hHeld => ?_)
            refine wpAnyT_take (i := 0) (oi := { dst := some 117, op := Op.fieldAddr 88 (Operand.tmp 14) 0, type := 0, pos := "ref.go:261", after := #[], guard := none }) (v := .pointer (some ⟨gW, 0, none⟩)) rfl (by kernel_rfl) (by kernel_rfl) (by kernel_rfl) (by kernel_rfl) (fun _ _ _ h => h) (Or.inl ⟨by rfl, ?_⟩) hHeld ?_
            · intro w hSw
              obtain ⟨s0, s1, s2, s3⟩ := hSw
              first
                | rfl
                | (go_simp; done)
            try simp only [Act.put, List.setIfInBounds_toArray, List.set_cons_zero, List.set_cons_succ]
            refine wpAnyT_take (i := 1) (oi := { dst := some 118, op := Op.load 85 (Operand.tmp 117), type := 85, pos := "ref.go:261", after := #[{ on := 0, ground := Ground.data }], guard := none }) (v := .slice (some ⟨gP, 0, none⟩) m m) rfl (by kernel_rfl) (by kernel_rfl) (by kernel_rfl) (by kernel_rfl) (fun _ _ _ h => h) (Or.inl ⟨by rfl, ?_⟩) hHeld ?_
            · intro w hSw
              obtain ⟨s0, s1, s2, s3⟩ := hSw
              first
                | rfl
                | (go_simp; done)
            try simp only [Act.put, List.setIfInBounds_toArray, List.set_cons_zero, List.set_cons_succ]
            refine wpAnyT_take (i := 2) (oi := { dst := some 119, op := Op.move (Operand.tmp 16), type := 3, pos := "ref.go:261", after := #[], guard := none }) (v := .int .i64 (i : Int)) rfl (by kernel_rfl) (by kernel_rfl) (by kernel_rfl) (by kernel_rfl) (fun _ _ _ h => h) (Or.inl ⟨by rfl, ?_⟩) hHeld ?_
            · intro w hSw
              obtain ⟨s0, s1, s2, s3⟩ := hSw
              first
                | rfl
                | (go_simp; done)
            try simp only [Act.put, List.setIfInBounds_toArray, List.set_cons_zero, List.set_cons_succ]
            refine wpAnyT_take (i := 3) (oi := { dst := some 120, op := Op.fieldAddr 88 (Operand.tmp 14) 0, type := 0, pos := "ref.go:261", after := #[], guard := none }) (v := .pointer (some ⟨gW, 0, none⟩)) rfl (by kernel_rfl) (by kernel_rfl) (by kernel_rfl) (by kernel_rfl) (fun _ _ _ h => h) (Or.inl ⟨by rfl, ?_⟩) hHeld ?_
            · intro w hSw
              obtain ⟨s0, s1, s2, s3⟩ := hSw
              first
                | rfl
                | (go_simp; done)
            try simp only [Act.put, List.setIfInBounds_toArray, List.set_cons_zero, List.set_cons_succ]
            refine wpAnyT_take (i := 4) (oi := { dst := some 121, op := Op.load 85 (Operand.tmp 120), type := 85, pos := "ref.go:261", after := #[{ on := 3, ground := Ground.data }], guard := none }) (v := .slice (some ⟨gP, 0, none⟩) m m) rfl (by kernel_rfl) (by kernel_rfl) (by kernel_rfl) (by kernel_rfl) (fun _ _ _ h => h) (Or.inl ⟨by rfl, ?_⟩) hHeld ?_
            · intro w hSw
              obtain ⟨s0, s1, s2, s3⟩ := hSw
              first
                | rfl
                | (go_simp; done)
            try simp only [Act.put, List.setIfInBounds_toArray, List.set_cons_zero, List.set_cons_succ]
            refine wpAnyT_take (i := 5) (oi := { dst := some 122, op := Op.move (Operand.tmp 16), type := 3, pos := "ref.go:261", after := #[], guard := none }) (v := .int .i64 (i : Int)) rfl (by kernel_rfl) (by kernel_rfl) (by kernel_rfl) (by kernel_rfl) (fun _ _ _ h => h) (Or.inl ⟨by rfl, ?_⟩) hHeld ?_
            · intro w hSw
              obtain ⟨s0, s1, s2, s3⟩ := hSw
              first
                | rfl
                | (go_simp; done)
            try simp only [Act.put, List.setIfInBounds_toArray, List.set_cons_zero, List.set_cons_succ]
            refine wpAnyT_take (i := 6) (oi := { dst := some 123, op := Op.indexAddr 85 (Operand.tmp 121) (Operand.tmp 122), type := 0, pos := "ref.go:261", after := #[{ on := 4, ground := Ground.data }, { on := 5, ground := Ground.data }], guard := none }) (v := .pointer (some ⟨gP, i, none⟩)) rfl (by kernel_rfl) (by kernel_rfl) (by kernel_rfl) (by kernel_rfl) (fun _ _ _ h => h) (Or.inl ⟨by rfl, ?_⟩) hHeld ?_
            · intro w hSw
              obtain ⟨s0, s1, s2, s3⟩ := hSw
              first
                | rfl
                | (go_simp; done)
            try simp only [Act.put, List.setIfInBounds_toArray, List.set_cons_zero, List.set_cons_succ]
            refine wpAnyT_take (i := 7) (oi := { dst := some 124, op := Op.load 9 (Operand.tmp 123), type := 9, pos := "ref.go:261", after := #[{ on := 6, ground := Ground.data }], guard := none }) (v := .string (txB zq8)) rfl (by kernel_rfl) (by kernel_rfl) (by kernel_rfl) (by kernel_rfl) (fun _ _ _ h => h) (Or.inl ⟨by rfl, ?_⟩) hHeld ?_
            · intro w hSw
              obtain ⟨s0, s1, s2, s3⟩ := hSw
              first
                | rfl
                | (go_simp; done)
            try simp only [Act.put, List.setIfInBounds_toArray, List.set_cons_zero, List.set_cons_succ]
            refine wpAnyT_take (i := 8) (oi := { dst := some 125, op := Op.fieldAddr 88 (Operand.tmp 13) 0, type := 0, pos := "ref.go:261", after := #[], guard := none }) (v := .pointer (some ⟨gY, 0, none⟩)) rfl (by kernel_rfl) (by kernel_rfl) (by kernel_rfl) (by kernel_rfl) (fun _ _ _ h => h) (Or.inl ⟨by rfl, ?_⟩) hHeld ?_
            · intro w hSw
              obtain ⟨s0, s1, s2, s3⟩ := hSw
              first
                | rfl
                | (go_simp; done)
            try simp only [Act.put, List.setIfInBounds_toArray, List.set_cons_zero, List.set_cons_succ]
            refine wpAnyT_take (i := 9) (oi := { dst := some 126, op := Op.load 85 (Operand.tmp 125), type := 85, pos := "ref.go:261", after := #[{ on := 8, ground := Ground.data }], guard := none }) (v := .slice (some ⟨yP, 0, none⟩) k k) rfl (by kernel_rfl) (by kernel_rfl) (by kernel_rfl) (by kernel_rfl) (fun _ _ _ h => h) (Or.inl ⟨by rfl, ?_⟩) hHeld ?_
            · intro w hSw
              obtain ⟨s0, s1, s2, s3⟩ := hSw
              first
                | rfl
                | (go_simp; done)
            try simp only [Act.put, List.setIfInBounds_toArray, List.set_cons_zero, List.set_cons_succ]
            refine wpAnyT_take (i := 10) (oi := { dst := some 127, op := Op.move (Operand.tmp 15), type := 3, pos := "ref.go:261", after := #[], guard := none }) (v := .int .i64 (aj : Int)) rfl (by kernel_rfl) (by kernel_rfl) (by kernel_rfl) (by kernel_rfl) (fun _ _ _ h => h) (Or.inl ⟨by rfl, ?_⟩) hHeld ?_
            · intro w hSw
              obtain ⟨s0, s1, s2, s3⟩ := hSw
              first
                | rfl
                | (go_simp; done)
            try simp only [Act.put, List.setIfInBounds_toArray, List.set_cons_zero, List.set_cons_succ]
            refine wpAnyT_take (i := 11) (oi := { dst := some 128, op := Op.indexAddr 85 (Operand.tmp 126) (Operand.tmp 127), type := 0, pos := "ref.go:261", after := #[{ on := 9, ground := Ground.data }, { on := 10, ground := Ground.data }], guard := none }) (v := .pointer (some ⟨yP, aj, none⟩)) rfl (by kernel_rfl) (by kernel_rfl) (by kernel_rfl) (by kernel_rfl) (fun _ _ _ h => h) (Or.inl ⟨by rfl, ?_⟩) hHeld ?_
            · intro w hSw
              obtain ⟨s0, s1, s2, s3⟩ := hSw
              first
                | rfl
                | (go_simp; done)
            try simp only [Act.put, List.setIfInBounds_toArray, List.set_cons_zero, List.set_cons_succ]
            refine wpAnyT_take (i := 12) (oi := { dst := some 129, op := Op.load 9 (Operand.tmp 128), type := 9, pos := "ref.go:261", after := #[{ on := 11, ground := Ground.data }], guard := none }) (v := .string (txB yq)) rfl (by kernel_rfl) (by kernel_rfl) (by kernel_rfl) (by kernel_rfl) (fun _ _ _ h => h) (Or.inl ⟨by rfl, ?_⟩) hHeld ?_
            · intro w hSw
              obtain ⟨s0, s1, s2, s3⟩ := hSw
              first
                | rfl
                | (go_simp; done)
            try simp only [Act.put, List.setIfInBounds_toArray, List.set_cons_zero, List.set_cons_succ]
            refine wpAnyT_take (i := 13) (oi := { dst := some 130, op := Op.binOp BinOp.add 9 (Operand.tmp 124) (Operand.tmp 129) 9, type := 9, pos := "ref.go:261", after := #[{ on := 7, ground := Ground.data }, { on := 12, ground := Ground.data }], guard := none }) (v := .string (txB (zq8 ++ yq))) rfl (by kernel_rfl) (by kernel_rfl) (by kernel_rfl) (by kernel_rfl) (fun _ _ _ h => h) (Or.inl ⟨by rfl, ?_⟩) hHeld ?_
            · intro w hSw
              obtain ⟨s0, s1, s2, s3⟩ := hSw
              rw [← unhide HAP8]
              first
                | rfl
                | (go_simp; done)
            try simp only [Act.put, List.setIfInBounds_toArray, List.set_cons_zero, List.set_cons_succ]
            refine wpAnyT_take (i := 14) (oi := { dst := some 131, op := Op.indexAddr 85 (Operand.tmp 118) (Operand.tmp 119), type := 0, pos := "ref.go:261", after := #[{ on := 1, ground := Ground.data }, { on := 2, ground := Ground.data }, { on := 0, ground := Ground.phase }, { on := 1, ground := Ground.phase }, { on := 2, ground := Ground.phase }, { on := 3, ground := Ground.phase }, { on := 4, ground := Ground.phase }, { on := 5, ground := Ground.phase }, { on := 6, ground := Ground.phase }, { on := 7, ground := Ground.phase }, { on := 8, ground := Ground.phase }, { on := 9, ground := Ground.phase }, { on := 10, ground := Ground.phase }, { on := 11, ground := Ground.phase }, { on := 12, ground := Ground.phase }, { on := 13, ground := Ground.phase }], guard := none }) (v := .pointer (some ⟨gP, i, none⟩)) rfl (by kernel_rfl) (by kernel_rfl) (by kernel_rfl) (by kernel_rfl) (fun _ _ _ h => h) (Or.inl ⟨by rfl, ?_⟩) hHeld ?_
            · intro w hSw
              obtain ⟨s0, s1, s2, s3⟩ := hSw
              first
                | rfl
                | (go_simp; done)
            try simp only [Act.put, List.setIfInBounds_toArray, List.set_cons_zero, List.set_cons_succ]
            refine wpAnyT_one (i := 15) (o := { dst := none, op := Op.store 9 (Operand.tmp 131) (Operand.tmp 130), type := 0, pos := "ref.go:261", after := #[{ on := 14, ground := Ground.data }, { on := 13, ground := Ground.data }, { on := 0, ground := Ground.phase }, { on := 1, ground := Ground.phase }, { on := 2, ground := Ground.phase }, { on := 3, ground := Ground.phase }, { on := 4, ground := Ground.phase }, { on := 5, ground := Ground.phase }, { on := 6, ground := Ground.phase }, { on := 7, ground := Ground.phase }, { on := 8, ground := Ground.phase }, { on := 9, ground := Ground.phase }, { on := 10, ground := Ground.phase }, { on := 11, ground := Ground.phase }, { on := 12, ground := Ground.phase }, { on := 13, ground := Ground.phase }], guard := none }) (by kernel_rfl) rfl (fun K hK => ?_)
            have fz := unhide HFZ8
            have cl := unhide HCL8
            go_simp
            refine hK.out _ _ (fun h => by cases h) ?_
            clear hK K
            try simp only [Act.put, List.setIfInBounds_toArray, List.set_cons_zero, List.set_cons_succ]
            refine wpAnyT_done (by kernel_rfl) ?_ _
            obtain ⟨w8, hw8⟩ : ∃ z, (wr.setCell ⟨gP, i, none⟩ (.string (txB (zq8 ++ yq)))).drew = z := ⟨_, rfl⟩
            simp only [hw8] at HZ8 ⊢
            clear HS8 HFZ8 HCL8
            clear hw8
            go_wp2_with fail
            obtain ⟨zb, hzb⟩ : ∃ z, ZD[i]? = some z := ⟨_, List.getElem?_eq_getElem (by have := (unhide HZ8).sp.dl; omega)⟩
            have HFZ9 : Hid (w8.drew.frozen? ⟨gD, i, none⟩ = false) := hide ((unhide HZ8).wd.cd hzb).2
            have HCL9 : Hid (w8.drew.cell? ⟨gD, i, none⟩ = some (.bool zb)) := hide ((unhide HZ8).wd.cd hzb).1
            have HS9 : Hid (∀ W, Below w8.heap.size w8 W → W.cell? ⟨gW, 1, none⟩ = some (.slice (some ⟨gD, 0, none⟩) n n) ∧ W.cell? ⟨gY, 1, none⟩ = some (.slice (some ⟨yD, 0, none⟩) d d) ∧ W.cell? ⟨yD, aj, none⟩ = some (.bool yb)) := hide (fun W hW => ⟨((unhide HZ8).call hW).bx.cell 1, (unhide HYA W ((unhide HZ8).bel.trans (hW.mono (unhide HZ8).bel.size))).bx.cell 1, ((unhide HYA W ((unhide HZ8).bel.trans (hW.mono (unhide HZ8).bel.size))).wd.cd (unhide HYB)).1⟩)
            have HZ9 : Hid (ZW wA (w8.setCell ⟨gD, i, none⟩ (.bool yb)).drew gP gD gW n m (ZP.set i (zq8 ++ yq)) (ZD.set i yb) (i + 1) ((x ++ yq.map .p) ++ [stp yb])) := hide (((unhide HZ8).step hin yb).call (Below.refl _ _).drew)
            clear hzb
            refine wp_region_T (S := fun W => W.cell? ⟨gW, 1, none⟩ = some (.slice (some ⟨gD, 0, none⟩) n n) ∧ W.cell? ⟨gY, 1, none⟩ = some (.slice (some ⟨yD, 0, none⟩) d d) ∧ W.cell? ⟨yD, aj, none⟩ = some (.bool yb)) (fun i => decide (i < 9)) (by kernel_rfl) (unhide HS9 _ (Below.refl _ _).drew) (fun hHeld => ?_)
            refine wpAnyT_take (i := 0) (oi := { dst := some 132, op := Op.fieldAddr 88 (Operand.tmp 14) 1, type := 0, pos := "ref.go:262", after := #[], guard := none }) (v := .pointer (some ⟨gW, 1, none⟩)) rfl (by kernel_rfl) (by kernel_rfl) (by kernel_rfl) (by kernel_rfl) (fun _ _ _ h => h) (Or.inl ⟨by rfl, ?_⟩) hHeld ?_
            · intro w hSw
              obtain ⟨s0, s1, s2⟩ := hSw
              first
                | rfl
                | (go_simp; done)
            try simp only [Act.put, List.setIfInBounds_toArray, List.set_cons_zero, List.set_cons_succ]
            refine wpAnyT_take (i := 1) (oi := { dst := some 133, op := Op.load 86 (Operand.tmp 132), type := 86, pos := "ref.go:262", after := #[{ on := 0, ground := Ground.data }], guard := none }) (v := .slice (some ⟨gD, 0, none⟩) n n) rfl (by kernel_rfl) (by kernel_rfl) (by kernel_rfl) (by kernel_rfl) (fun _ _ _ h => h) (Or.inl ⟨by rfl, ?_⟩) hHeld ?_
            · intro w hSw
              obtain ⟨s0, s1, s2⟩ := hSw
              first
                | rfl
                | (go_simp; done)
            try simp only [Act.put, List.setIfInBounds_toArray, List.set_cons_zero, List.set_cons_succ]
            refine wpAnyT_take (i := 2) (oi := { dst := some 134, op := Op.move (Operand.tmp 16), type := 3, pos := "ref.go:262", after := #[], guard := none }) (v := .int .i64 (i : Int)) rfl (by kernel_rfl) (by kernel_rfl) (by kernel_rfl) (by kernel_rfl) (fun _ _ _ h => h) (Or.inl ⟨by rfl, ?_⟩) hHeld ?_
            · intro w hSw
              obtain ⟨s0, s1, s2⟩ := hSw
              first
                | rfl
                | (go_simp; done)
            try simp only [Act.put, List.setIfInBounds_toArray, List.set_cons_zero, List.set_cons_succ]
            refine wpAnyT_take (i := 3) (oi := { dst := some 135, op := Op.fieldAddr 88 (Operand.tmp 13) 1, type := 0, pos := "ref.go:262", after := #[], guard := none }) (v := .pointer (some ⟨gY, 1, none⟩)) rfl (by kernel_rfl) (by kernel_rfl) (by kernel_rfl) (by kernel_rfl) (fun _ _ _ h => h) (Or.inl ⟨by rfl, ?_⟩) hHeld ?_
            · intro w hSw
              obtain ⟨s0, s1, s2⟩ := hSw
              first
                | rfl
                | (go_simp; done)
            try simp only [Act.put, List.setIfInBounds_toArray, List.set_cons_zero, List.set_cons_succ]
            refine wpAnyT_take (i := 4) (oi := { dst := some 136, op := Op.load 86 (Operand.tmp 135), type := 86, pos := "ref.go:262", after := #[{ on := 3, ground := Ground.data }], guard := none }) (v := .slice (some ⟨yD, 0, none⟩) d d) rfl (by kernel_rfl) (by kernel_rfl) (by kernel_rfl) (by kernel_rfl) (fun _ _ _ h => h) (Or.inl ⟨by rfl, ?_⟩) hHeld ?_
            · intro w hSw
              obtain ⟨s0, s1, s2⟩ := hSw
              first
                | rfl
                | (go_simp; done)
            try simp only [Act.put, List.setIfInBounds_toArray, List.set_cons_zero, List.set_cons_succ]
            refine wpAnyT_take (i := 5) (oi := { dst := some 137, op := Op.move (Operand.tmp 15), type := 3, pos := "ref.go:262", after := #[], guard := none }) (v := .int .i64 (aj : Int)) rfl (by kernel_rfl) (by kernel_rfl) (by kernel_rfl) (by kernel_rfl) (fun _ _ _ h => h) (Or.inl ⟨by rfl, ?_⟩) hHeld ?_
            · intro w hSw
              obtain ⟨s0, s1, s2⟩ := hSw
              first
                | rfl
                | (go_simp; done)
            try simp only [Act.put, List.setIfInBounds_toArray, List.set_cons_zero, List.set_cons_succ]
            refine wpAnyT_take (i := 6) (oi := { dst := some 138, op := Op.indexAddr 86 (Operand.tmp 136) (Operand.tmp 137), type := 0, pos := "ref.go:262", after := #[{ on := 4, ground := Ground.data }, { on := 5, ground := Ground.data }], guard := none }) (v := .pointer (some ⟨yD, aj, none⟩)) rfl (by kernel_rfl) (by kernel_rfl) (by kernel_rfl) (by kernel_rfl) (fun _ _ _ h => h) (Or.inl ⟨by rfl, ?_⟩) hHeld ?_
            · intro w hSw
              obtain ⟨s0, s1, s2⟩ := hSw
              first
                | rfl
                | (go_simp; done)
            try simp only [Act.put, List.setIfInBounds_toArray, List.set_cons_zero, List.set_cons_succ]
            refine wpAnyT_take (i := 7) (oi := { dst := some 139, op := Op.load 4 (Operand.tmp 138), type := 4, pos := "ref.go:262", after := #[{ on := 6, ground := Ground.data }], guard := none }) (v := .bool yb) rfl (by kernel_rfl) (by kernel_rfl) (by kernel_rfl) (by kernel_rfl) (fun _ _ _ h => h) (Or.inl ⟨by rfl, ?_⟩) hHeld ?_
            · intro w hSw
              obtain ⟨s0, s1, s2⟩ := hSw
              first
                | rfl
                | (go_simp; done)
            try simp only [Act.put, List.setIfInBounds_toArray, List.set_cons_zero, List.set_cons_succ]
            refine wpAnyT_take (i := 8) (oi := { dst := some 140, op := Op.indexAddr 86 (Operand.tmp 133) (Operand.tmp 134), type := 0, pos := "ref.go:262", after := #[{ on := 1, ground := Ground.data }, { on := 2, ground := Ground.data }, { on := 0, ground := Ground.phase }, { on := 1, ground := Ground.phase }, { on := 2, ground := Ground.phase }, { on := 3, ground := Ground.phase }, { on := 4, ground := Ground.phase }, { on := 5, ground := Ground.phase }, { on := 6, ground := Ground.phase }, { on := 7, ground := Ground.phase }], guard := none }) (v := .pointer (some ⟨gD, i, none⟩)) rfl (by kernel_rfl) (by kernel_rfl) (by kernel_rfl) (by kernel_rfl) (fun _ _ _ h => h) (Or.inl ⟨by rfl, ?_⟩) hHeld ?_
            · intro w hSw
              obtain ⟨s0, s1, s2⟩ := hSw
              first
                | rfl
                | (go_simp; done)
            try simp only [Act.put, List.setIfInBounds_toArray, List.set_cons_zero, List.set_cons_succ]
            refine wpAnyT_one (i := 9) (o := { dst := none, op := Op.store 4 (Operand.tmp 140) (Operand.tmp 139), type := 0, pos := "ref.go:262", after := #[{ on := 8, ground := Ground.data }, { on := 7, ground := Ground.data }, { on := 0, ground := Ground.phase }, { on := 1, ground := Ground.phase }, { on := 2, ground := Ground.phase }, { on := 3, ground := Ground.phase }, { on := 4, ground := Ground.phase }, { on := 5, ground := Ground.phase }, { on := 6, ground := Ground.phase }, { on := 7, ground := Ground.phase }], guard := none }) (by kernel_rfl) rfl (fun K hK => ?_)
            have fz := unhide HFZ9
            have cl := unhide HCL9
            go_simp
            refine hK.out _ _ (fun h => by cases h) ?_
            clear hK K
            try simp only [Act.put, List.setIfInBounds_toArray, List.set_cons_zero, List.set_cons_succ]
            refine wpAnyT_done (by kernel_rfl) ?_ _
            obtain ⟨w9, hw9⟩ : ∃ z, (w8.setCell ⟨gD, i, none⟩ (.bool yb)).drew = z := ⟨_, rfl⟩
            simp only [hw9] at HZ9 ⊢
            clear HS9 HFZ9 HCL9
            clear hw9
            go_wp2_with fail
            refine ⟨⟨i + 1, aj + 1, by omega, by simp, by simp, hide ⟨_, _, _, unhide HZ9, unhide HNE, ?_⟩⟩, by simp [intOf]; omega⟩
            have := unhide HE2
            simp at this
            omega
        · obtain rfl : n = i := by omega
          have hR0 : R = [] := unhide HR3 rfl
          rw [hR0] at HE1 HE2
          have hadz : aj = d := by have := unhide HE2; simpa [At.toN] using this
          subst hadz
          have HNE := hide (cm_end (unhide HYL) (unhide HYQ) (unhide HE1))
          clear hR0
          go_wp2_with fail
          obtain ⟨zq8, hzq, hzc, hzs, zc, zf, -⟩ := (unhide HZ).at_ (unhide HXL8)
          have HZQ8 := hide hzq
          have hap8 : txB zq8 ++ txB yq = txB (zq8 ++ yq) := txB_app zq8 yq
          have HAP8 := hide hap8
          have hsz8 : (txB zq8).size + (txB yq).size ≤ 9223372036854775807 := by have := unhide HYZ; omega
          have HFZ8 : Hid (wr.drew.frozen? ⟨gP, n, none⟩ = false) := hide zf
          have HCL8 : Hid (wr.drew.cell? ⟨gP, n, none⟩ = some (.string (txB zq8))) := hide zc
          have HS8 : Hid (∀ W, Below wr.heap.size wr W → W.cell? ⟨gW, 0, none⟩ = some (.slice (some ⟨gP, 0, none⟩) m m) ∧ W.cell? ⟨gP, n, none⟩ = some (.string (txB zq8)) ∧ W.cell? ⟨gY, 0, none⟩ = some (.slice (some ⟨yP, 0, none⟩) k k) ∧ W.cell? ⟨yP, aj, none⟩ = some (.string (txB yq))) := hide (fun W hW => ⟨((unhide HZ).call hW).bx.cell 0, (((unhide HZ).call hW).wd.cp (unhide HZQ8)).1, (unhide HYA W ((unhide HZ).bel.trans (hW.mono (unhide HZ).bel.size))).bx.cell 0, ((unhide HYA W ((unhide HZ).bel.trans (hW.mono (unhide HZ).bel.size))).wd.cp (unhide HYQ)).1⟩)
          have HZ8 : Hid (ZW wA (wr.setCell ⟨gP, n, none⟩ (.string (txB (zq8 ++ yq)))).drew gP gD gW n m (ZP.set n (zq8 ++ yq)) ZD n (x ++ yq.map .p)) := hide (((unhide HZ).put (unhide HM) (unhide HZQ8) (unhide HCY)).call (Below.refl _ _).drew)
          clear hzq hzc hzs zc zf hap8
          refine wp_region_T (S := fun W => W.cell? ⟨gW, 0, none⟩ = some (.slice (some ⟨gP, 0, none⟩) m m) ∧ W.cell? ⟨gP, n, none⟩ = some (.string (txB zq8)) ∧ W.cell? ⟨gY, 0, none⟩ = some (.slice (some ⟨yP, 0, none⟩) k k) ∧ W.cell? ⟨yP, aj, none⟩ = some (.string (txB yq))) (fun i => decide (i < 15)) (by kernel_rfl) (unhide HS8 _ (Below.refl _ _).drew) (fun hHeld => ?_)
          refine wpAnyT_take (i := 0) (oi := { dst := some 144, op := Op.fieldAddr 88 (Operand.tmp 14) 0, type := 0, pos := "ref.go:265", after := #[], guard := none }) (v := .pointer (some ⟨gW, 0, none⟩)) rfl (by kernel_rfl) (by kernel_rfl) (by kernel_rfl) (by kernel_rfl) (fun _ _ _ h => h) (Or.inl ⟨by rfl, ?_⟩) hHeld ?_
          · intro w hSw
            obtain ⟨s0, s1, s2, s3⟩ := hSw
            first
              | rfl
              | (go_simp; done)
          try simp only [Act.put, List.setIfInBounds_toArray, List.set_cons_zero, List.set_cons_succ]
          refine wpAnyT_take (i := 1) (oi := { dst := some 145, op := Op.load 85 (Operand.tmp 144), type := 85, pos := "ref.go:265", after := #[{ on := 0, ground := Ground.data }], guard := none }) (v := .slice (some ⟨gP, 0, none⟩) m m) rfl (by kernel_rfl) (by kernel_rfl) (by kernel_rfl) (by kernel_rfl) (fun _ _ _ h => h) (Or.inl ⟨by rfl, ?_⟩) hHeld ?_
          · intro w hSw
            obtain ⟨s0, s1, s2, s3⟩ := hSw
            first
              | rfl
              | (go_simp; done)
          try simp only [Act.put, List.setIfInBounds_toArray, List.set_cons_zero, List.set_cons_succ]
          refine wpAnyT_take (i := 2) (oi := { dst := some 146, op := Op.move (Operand.tmp 6), type := 3, pos := "ref.go:265", after := #[], guard := none }) (v := .int .i64 (n : Int)) rfl (by kernel_rfl) (by kernel_rfl) (by kernel_rfl) (by kernel_rfl) (fun _ _ _ h => h) (Or.inl ⟨by rfl, ?_⟩) hHeld ?_
          · intro w hSw
            obtain ⟨s0, s1, s2, s3⟩ := hSw
            first
              | rfl
              | (go_simp; done)
          try simp only [Act.put, List.setIfInBounds_toArray, List.set_cons_zero, List.set_cons_succ]
          refine wpAnyT_take (i := 3) (oi := { dst := some 147, op := Op.fieldAddr 88 (Operand.tmp 14) 0, type := 0, pos := "ref.go:265", after := #[], guard := none }) (v := .pointer (some ⟨gW, 0, none⟩)) rfl (by kernel_rfl) (by kernel_rfl) (by kernel_rfl) (by kernel_rfl) (fun _ _ _ h => h) (Or.inl ⟨by rfl, ?_⟩) hHeld ?_
          · intro w hSw
            obtain ⟨s0, s1, s2, s3⟩ := hSw
            first
              | rfl
              | (go_simp; done)
          try simp only [Act.put, List.setIfInBounds_toArray, List.set_cons_zero, List.set_cons_succ]
          refine wpAnyT_take (i := 4) (oi := { dst := some 148, op := Op.load 85 (Operand.tmp 147), type := 85, pos := "ref.go:265", after := #[{ on := 3, ground := Ground.data }], guard := none }) (v := .slice (some ⟨gP, 0, none⟩) m m) rfl (by kernel_rfl) (by kernel_rfl) (by kernel_rfl) (by kernel_rfl) (fun _ _ _ h => h) (Or.inl ⟨by rfl, ?_⟩) hHeld ?_
          · intro w hSw
            obtain ⟨s0, s1, s2, s3⟩ := hSw
            first
              | rfl
              | (go_simp; done)
          try simp only [Act.put, List.setIfInBounds_toArray, List.set_cons_zero, List.set_cons_succ]
          refine wpAnyT_take (i := 5) (oi := { dst := some 149, op := Op.move (Operand.tmp 6), type := 3, pos := "ref.go:265", after := #[], guard := none }) (v := .int .i64 (n : Int)) rfl (by kernel_rfl) (by kernel_rfl) (by kernel_rfl) (by kernel_rfl) (fun _ _ _ h => h) (Or.inl ⟨by rfl, ?_⟩) hHeld ?_
          · intro w hSw
            obtain ⟨s0, s1, s2, s3⟩ := hSw
            first
              | rfl
              | (go_simp; done)
          try simp only [Act.put, List.setIfInBounds_toArray, List.set_cons_zero, List.set_cons_succ]
          refine wpAnyT_take (i := 6) (oi := { dst := some 150, op := Op.indexAddr 85 (Operand.tmp 148) (Operand.tmp 149), type := 0, pos := "ref.go:265", after := #[{ on := 4, ground := Ground.data }, { on := 5, ground := Ground.data }], guard := none }) (v := .pointer (some ⟨gP, n, none⟩)) rfl (by kernel_rfl) (by kernel_rfl) (by kernel_rfl) (by kernel_rfl) (fun _ _ _ h => h) (Or.inl ⟨by rfl, ?_⟩) hHeld ?_
          · intro w hSw
            obtain ⟨s0, s1, s2, s3⟩ := hSw
            first
              | rfl
              | (go_simp; done)
          try simp only [Act.put, List.setIfInBounds_toArray, List.set_cons_zero, List.set_cons_succ]
          refine wpAnyT_take (i := 7) (oi := { dst := some 151, op := Op.load 9 (Operand.tmp 150), type := 9, pos := "ref.go:265", after := #[{ on := 6, ground := Ground.data }], guard := none }) (v := .string (txB zq8)) rfl (by kernel_rfl) (by kernel_rfl) (by kernel_rfl) (by kernel_rfl) (fun _ _ _ h => h) (Or.inl ⟨by rfl, ?_⟩) hHeld ?_
          · intro w hSw
            obtain ⟨s0, s1, s2, s3⟩ := hSw
            first
              | rfl
              | (go_simp; done)
          try simp only [Act.put, List.setIfInBounds_toArray, List.set_cons_zero, List.set_cons_succ]
          refine wpAnyT_take (i := 8) (oi := { dst := some 152, op := Op.fieldAddr 88 (Operand.tmp 13) 0, type := 0, pos := "ref.go:265", after := #[], guard := none }) (v := .pointer (some ⟨gY, 0, none⟩)) rfl (by kernel_rfl) (by kernel_rfl) (by kernel_rfl) (by kernel_rfl) (fun _ _ _ h => h) (Or.inl ⟨by rfl, ?_⟩) hHeld ?_
          · intro w hSw
            obtain ⟨s0, s1, s2, s3⟩ := hSw
            first
              | rfl
              | (go_simp; done)
          try simp only [Act.put, List.setIfInBounds_toArray, List.set_cons_zero, List.set_cons_succ]
          refine wpAnyT_take (i := 9) (oi := { dst := some 153, op := Op.load 85 (Operand.tmp 152), type := 85, pos := "ref.go:265", after := #[{ on := 8, ground := Ground.data }], guard := none }) (v := .slice (some ⟨yP, 0, none⟩) k k) rfl (by kernel_rfl) (by kernel_rfl) (by kernel_rfl) (by kernel_rfl) (fun _ _ _ h => h) (Or.inl ⟨by rfl, ?_⟩) hHeld ?_
          · intro w hSw
            obtain ⟨s0, s1, s2, s3⟩ := hSw
            first
              | rfl
              | (go_simp; done)
          try simp only [Act.put, List.setIfInBounds_toArray, List.set_cons_zero, List.set_cons_succ]
          refine wpAnyT_take (i := 10) (oi := { dst := some 154, op := Op.move (Operand.tmp 15), type := 3, pos := "ref.go:265", after := #[], guard := none }) (v := .int .i64 (aj : Int)) rfl (by kernel_rfl) (by kernel_rfl) (by kernel_rfl) (by kernel_rfl) (fun _ _ _ h => h) (Or.inl ⟨by rfl, ?_⟩) hHeld ?_
          · intro w hSw
            obtain ⟨s0, s1, s2, s3⟩ := hSw
            first
              | rfl
              | (go_simp; done)
          try simp only [Act.put, List.setIfInBounds_toArray, List.set_cons_zero, List.set_cons_succ]
          refine wpAnyT_take (i := 11) (oi := { dst := some 155, op := Op.indexAddr 85 (Operand.tmp 153) (Operand.tmp 154), type := 0, pos := "ref.go:265", after := #[{ on := 9, ground := Ground.data }, { on := 10, ground := Ground.data }], guard := none }) (v := .pointer (some ⟨yP, aj, none⟩)) rfl (by kernel_rfl) (by kernel_rfl) (by kernel_rfl) (by kernel_rfl) (fun _ _ _ h => h) (Or.inl ⟨by rfl, ?_⟩) hHeld ?_
          · intro w hSw
            obtain ⟨s0, s1, s2, s3⟩ := hSw
            first
              | rfl
              | (go_simp; done)
          try simp only [Act.put, List.setIfInBounds_toArray, List.set_cons_zero, List.set_cons_succ]
          refine wpAnyT_take (i := 12) (oi := { dst := some 156, op := Op.load 9 (Operand.tmp 155), type := 9, pos := "ref.go:265", after := #[{ on := 11, ground := Ground.data }], guard := none }) (v := .string (txB yq)) rfl (by kernel_rfl) (by kernel_rfl) (by kernel_rfl) (by kernel_rfl) (fun _ _ _ h => h) (Or.inl ⟨by rfl, ?_⟩) hHeld ?_
          · intro w hSw
            obtain ⟨s0, s1, s2, s3⟩ := hSw
            first
              | rfl
              | (go_simp; done)
          try simp only [Act.put, List.setIfInBounds_toArray, List.set_cons_zero, List.set_cons_succ]
          refine wpAnyT_take (i := 13) (oi := { dst := some 157, op := Op.binOp BinOp.add 9 (Operand.tmp 151) (Operand.tmp 156) 9, type := 9, pos := "ref.go:265", after := #[{ on := 7, ground := Ground.data }, { on := 12, ground := Ground.data }], guard := none }) (v := .string (txB (zq8 ++ yq))) rfl (by kernel_rfl) (by kernel_rfl) (by kernel_rfl) (by kernel_rfl) (fun _ _ _ h => h) (Or.inl ⟨by rfl, ?_⟩) hHeld ?_
          · intro w hSw
            obtain ⟨s0, s1, s2, s3⟩ := hSw
            rw [← unhide HAP8]
            first
              | rfl
              | (go_simp; done)
          try simp only [Act.put, List.setIfInBounds_toArray, List.set_cons_zero, List.set_cons_succ]
          refine wpAnyT_take (i := 14) (oi := { dst := some 158, op := Op.indexAddr 85 (Operand.tmp 145) (Operand.tmp 146), type := 0, pos := "ref.go:265", after := #[{ on := 1, ground := Ground.data }, { on := 2, ground := Ground.data }, { on := 0, ground := Ground.phase }, { on := 1, ground := Ground.phase }, { on := 2, ground := Ground.phase }, { on := 3, ground := Ground.phase }, { on := 4, ground := Ground.phase }, { on := 5, ground := Ground.phase }, { on := 6, ground := Ground.phase }, { on := 7, ground := Ground.phase }, { on := 8, ground := Ground.phase }, { on := 9, ground := Ground.phase }, { on := 10, ground := Ground.phase }, { on := 11, ground := Ground.phase }, { on := 12, ground := Ground.phase }, { on := 13, ground := Ground.phase }], guard := none }) (v := .pointer (some ⟨gP, n, none⟩)) rfl (by kernel_rfl) (by kernel_rfl) (by kernel_rfl) (by kernel_rfl) (fun _ _ _ h => h) (Or.inl ⟨by rfl, ?_⟩) hHeld ?_
          · intro w hSw
            obtain ⟨s0, s1, s2, s3⟩ := hSw
            first
              | rfl
              | (go_simp; done)
          try simp only [Act.put, List.setIfInBounds_toArray, List.set_cons_zero, List.set_cons_succ]
          refine wpAnyT_one (i := 15) (o := { dst := none, op := Op.store 9 (Operand.tmp 158) (Operand.tmp 157), type := 0, pos := "ref.go:265", after := #[{ on := 14, ground := Ground.data }, { on := 13, ground := Ground.data }, { on := 0, ground := Ground.phase }, { on := 1, ground := Ground.phase }, { on := 2, ground := Ground.phase }, { on := 3, ground := Ground.phase }, { on := 4, ground := Ground.phase }, { on := 5, ground := Ground.phase }, { on := 6, ground := Ground.phase }, { on := 7, ground := Ground.phase }, { on := 8, ground := Ground.phase }, { on := 9, ground := Ground.phase }, { on := 10, ground := Ground.phase }, { on := 11, ground := Ground.phase }, { on := 12, ground := Ground.phase }, { on := 13, ground := Ground.phase }], guard := none }) (by kernel_rfl) rfl (fun K hK => ?_)
          have fz := unhide HFZ8
          have cl := unhide HCL8
          go_simp
          refine hK.out _ _ (fun h => by cases h) ?_
          clear hK K
          try simp only [Act.put, List.setIfInBounds_toArray, List.set_cons_zero, List.set_cons_succ]
          refine wpAnyT_done (by kernel_rfl) ?_ _
          obtain ⟨w8, hw8⟩ : ∃ z, (wr.setCell ⟨gP, n, none⟩ (.string (txB (zq8 ++ yq)))).drew = z := ⟨_, rfl⟩
          simp only [hw8] at HZ8 ⊢
          clear HS8 HFZ8 HCL8
          clear hw8
          have HB8 := hide ((unhide HBA).trans ((unhide HZ8).bel.mono (unhide HBA).size))
          have HDN := hide (unhide HZ8).sp.done
          rw [unhide HNE] at HDN
          have HCL := hide (close_any w8 (unhide HZ8).wd (by rw [(unhide HZ8).sp.pl, (unhide HZ8).sp.dl]) (unhide HZ8).sp.cps (by rw [unhide HDN]; have := unhide HTL; omega) (by rw [unhide HDN]; have h1 := at_to TT; have := unhide HTL; omega) (by rw [(unhide HZ8).sp.dl]; omega))
          have z0 : w8.cell? ⟨gW, 0, none⟩ = some (.slice (some ⟨gP, 0, none⟩) m m) := (unhide HZ8).bx.cell 0
          have z1 : w8.cell? ⟨gW, 1, none⟩ = some (.slice (some ⟨gD, 0, none⟩) n n) := (unhide HZ8).bx.cell 1
          go_wp2_with fail
          refine Calls.mono (unhide HCL) ?_
          rintro r w9 ⟨v9, L9, rfl, ho9, hn9, ha9, hb9⟩
          have HO9 := hide (own_base ho9 (unhide HB8).size)
          have HB9 := hide ((unhide HB8).trans (hb9.mono (unhide HB8).size))
          have HA9 := hide (And.intro hn9 ha9)
          clear ho9 hn9 ha9 hb9
          go_wp2_with fail
          go_ret2
          exact ⟨_, L9, rfl, unhide HO9, (unhide HA9).1, by rw [(unhide HA9).2, unhide HDN], unhide HB9⟩
end Go.Proofs.YtidblnjohkadhaaDoor
