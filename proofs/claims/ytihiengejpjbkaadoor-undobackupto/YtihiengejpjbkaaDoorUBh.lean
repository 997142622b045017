/- behind: a pile behind an edit. -/
import Derived.Test.YtihiengejpjbkaaDoorUBk
import Derived.Test.YtihiengejpjbkaaDoorUAl
import Derived.Test.YtihiengejpjbkaaDoorBck0
import Derived.Laws.OwnMore
namespace Go.Proofs.YtihiengejpjbkaaDoor
set_option linter.unusedVariables false
set_option linter.unusedSimpArgs false
open Go.ChangeShapes Go.WideShapes Go.ChangeAt Go.RowKit Go.Joins Go.Deep Go.Shelf

attribute [local go_sem] Oper.semAt_some
/-- an edit of a pile -/
structure Pe where
  v : Value
  l : List Pt
noncomputable def ats (P : List Pe) : List (List At) := (P.map (fun p => atomsL p.l)).reverse
structure PeOk (w : World) (p : Pe) : Prop where
  own : OwnP w 0 p.v p.l
  nf : NfG 0 p.l
theorem PeOk.call {w w' : World} {p : Pe} (h : PeOk w p) (hb : Below w.heap.size w w') : PeOk w' p := ⟨h.own.call hb, h.nf⟩
theorem ats_len (P : List Pe) : (ats P).length = P.length := by simp [ats]
theorem ats_at {P : List Pe} {m k : Nat} {p : Pe} (h : P[m]? = some p) (hk : m + 1 + k = P.length) : (ats P)[k]? = some (atomsL p.l) := by
  unfold ats
  rw [List.getElem?_reverse (by rw [List.length_map]; omega), List.length_map, List.getElem?_map, show P.length - 1 - k = m by omega, h]
  rfl
theorem ats_mem {P : List Pe} {p : Pe} (h : p ∈ P) : atomsL p.l ∈ ats P := by
  unfold ats
  rw [List.mem_reverse]
  exact List.mem_map.2 ⟨p, h, rfl⟩
/-- an edit in memory: it came in, or is one of edit's own -/
def EdV (w0 W : World) (v : Value) (l : List Pt) : Prop := ∃ a c, v = .slice a l.length c ∧ (Edit w0 a l c ∨ OwnP W 0 v l)
theorem atoms_len {l : List Pt} (h : NfG 0 l) : l.length ≤ (atomsL l).length := by
  have hg := h.good
  clear h
  induction l with
  | nil => simp
  | cons p r ih =>
    have h1 := ih (fun q hq => hg q (List.mem_cons_of_mem _ hq))
    have h2 := (hg p List.mem_cons_self).ne
    have h3 : 0 < (atoms p).length := List.length_pos_iff.2 h2
    simp only [atomsL, List.length_cons, List.length_append]
    omega
theorem nf_len {l : List Pt} (h : NfG 0 l) : l.length ≤ At.fromN (atomsL l) + At.toN (atomsL l) := Nat.le_trans (atoms_len h) (At.len_le _)
theorem nf_ed {l : List Pt} {M : Nat} (h : NfG 0 l) (hM : M ≤ 1099511627776) (h1 : At.fromN (atomsL l) ≤ M) (h2 : At.toN (atomsL l) ≤ M) : IsEd l (At.fromN (atomsL l)) (At.toN (atomsL l)) := ⟨h, rfl, rfl, by omega, by omega⟩
theorem EdV.edit {w0 W : World} {v : Value} {l : List Pt} (h : EdV w0 W v l) (hb : Below w0.heap.size w0 W) {f t : Nat} (he : IsEd l f t) (hl : l.length ≤ 4398046511104) : ∃ a c, v = .slice a l.length c ∧ Edit W a l c := by
  obtain ⟨a, c, e, h⟩ := h
  rcases h with h | h
  · exact ⟨a, c, e, h.call hb⟩
  · obtain ⟨a', c', e', h'⟩ := h.edit (ed_txt he) hl
    exact ⟨a', c', e', h'⟩
/-- what lies there between two rounds -/
structure Bi (w0 W : World) (M q0 ge gl gr g4 g5 : Nat) (zs : List Value) (P : List Pe) (e0 : List At) (ys : List (Bx zs)) : Prop where
  below : Below w0.heap.size w0 W
  box : ∃ ve le, RowAt W ge 32 [ve] ∧ EdV w0 W ve le ∧ NfG 0 le ∧ At.fromN (atomsL le) ≤ M + q0 ∧ At.toN (atomsL le) ≤ M + q0 ∧ At.putsN (atomsL le) ≤ q0 ∧ (ys.map Subtype.val = bk zs ys.length → atomsL le = behE ((ats P).take ys.length) e0)
  row : ∃ cs : List Value, RowAt W gr 32 cs ∧ cs.length = zs.length ∧ (ys.map Subtype.val = bk zs ys.length → ∀ (k m : Nat) (x : List At), k < ys.length → m + 1 + k = zs.length → (beh (ats P) e0)[k]? = some x → ∃ v l, cs[m]? = some v ∧ OwnP W 0 v l ∧ NfG 0 l ∧ atomsL l = x)
  lbox : RowAt W gl 63 [.slice (some ⟨gr, 0, none⟩) zs.length zs.length]
  r4 : RowAt W g4 63 [.slice none 0 0]
  r5 : RowAt W g5 35 [.int .i64 0]
theorem EdV.only {w0 W W' : World} {v : Value} {l : List Pt} {p : Nat → Prop} (h : EdV w0 W v l) (ho : Only p W W') (hp : ∀ k, p k → ∀ cs fr, W.heap[k]? ≠ some (.cells cs 38 fr)) : EdV w0 W' v l := by
  obtain ⟨a, c, e, h⟩ := h
  refine ⟨a, c, e, h.imp id (fun h => own_only h ho (fun k hk hpk => ?_))⟩
  rcases h.2 with ⟨e1, _⟩ | ⟨g, c', cur, e1, _, hrow, _⟩
  · rw [e1] at hk; cases hk
  · rw [e1] at hk
    have : g = k := by injection hk
    subst this
    exact hp _ hpk _ _ hrow
theorem Bi.grown {w0 W W' : World} {M q0 ge gl gr g4 g5 : Nat} {zs : List Value} {P : List Pe} {e0 : List At} {ys : List (Bx zs)} {p : Nat → Prop} (h : Bi w0 W M q0 ge gl gr g4 g5 zs P e0 ys) (ho : Only p W W') (hp : ∀ k, p k → ∀ cs t fr, W.heap[k]? ≠ some (.cells cs t fr)) (hb : Below w0.heap.size w0 W') : Bi w0 W' M q0 ge gl gr g4 g5 zs P e0 ys := by
  obtain ⟨ve, le, hr, hv, h1, h2, h3, h4, h5⟩ := h.box
  obtain ⟨cs, hc, hl, hx⟩ := h.row
  have hrow : ∀ {g : Nat} {t : TypeId} {cs : List Value}, RowAt W g t cs → RowAt W' g t cs := fun hg => hg.only ho (fun e => hp _ e _ _ _ hg)
  refine ⟨hb, ⟨ve, le, hrow hr, hv.only ho (fun k hk cs fr => hp k hk cs _ fr), h1, h2, h3, h4, h5⟩, ⟨cs, hrow hc, hl, fun hy k m x hk hm hb' => ?_⟩, hrow h.lbox, hrow h.r4, hrow h.r5⟩
  obtain ⟨v, l, e1, e2, e3, e4⟩ := hx hy k m x hk hm hb'
  refine ⟨v, l, e1, own_only e2 ho (fun k hk hpk => ?_), e3, e4⟩
  rcases e2.2 with ⟨e5, _⟩ | ⟨g, c', cur, e5, _, hrow', _⟩
  · rw [e5] at hk; cases hk
  · rw [e5] at hk
    have : g = k := by injection hk
    subst this
    exact hp _ hpk _ _ _ hrow'
theorem back70 (a : Option Addr) (n cap : Nat) (w : World) (m1 : Nat) :
    CallsIn Fence.wide m1 Tryd.prog 70 #[.slice a n cap] w fun e w' => e = .returned (.func (.func 86) #[] #[.pointer (some ⟨w.heap.size, 0, none⟩)]) ∧ w' = w.alloc (.cells #[.slice a n cap] 63) := by
  refine callsIn_of_wp Tryd.func70 rfl trivial ?_ rfl
  simp only [Tryd.ntmps70, List.size_toArray, List.length_cons, List.length_nil, Nat.reduceAdd, Nat.reduceSub, Array.replicate_succ, Array.replicate_zero, List.push_toArray, List.append_toArray, List.nil_append, List.cons_append]
  gi_wp2
  go_ret
  exact ⟨rfl, rfl⟩
theorem made_len (z : Value) (n : Nat) : (madeCells z.cells n).toList.length = n := by simp [madeCells]
theorem notcells {W : World} {row : Option Nat} {B : Nat} (hr : ∀ r, row = some r → B ≤ r ∧ ∃ o : Obj, W.heap[r]? = some o ∧ o.isCells = false) : ∀ k, row = some k → ∀ cs t fr, W.heap[k]? ≠ some (.cells cs t fr) := by
  intro k hk cs t fr e
  obtain ⟨_, o, h1, h2⟩ := hr k hk
  rw [h1] at e
  injection e with e
  subst e
  cases h2
theorem belowFrom {W W' : World} (h : Below W.heap.size W W') (B : Nat) : KeepsFrom B W W' := ⟨h.size, fun k o _ ho _ => by rw [h.block k (Array.getElem?_eq_some_iff.1 ho).1]; exact ho⟩
theorem behE_next : ∀ (P : List (List At)) (k : Nat) (x e : List At), P[k]? = some x → behE (P.take (k + 1)) e = At.can (At.two x (behE (P.take k) e))
  | [], k, x, e, h => by simp at h
  | y :: r, 0, x, e, h => by
    obtain rfl : y = x := by simpa using h
    simp [behE]
  | y :: r, k + 1, x, e, h => by
    simp only [List.take_succ_cons, behE]
    exact behE_next r k x _ (by simpa using h)
theorem beh_at : ∀ (P : List (List At)) (k : Nat) (x e : List At), P[k]? = some x → (beh P e)[k]? = some (At.can (At.one x (behE (P.take k) e)))
  | [], k, x, e, h => by simp at h
  | y :: r, 0, x, e, h => by
    obtain rfl : y = x := by simpa using h
    simp [beh, behE]
  | y :: r, k + 1, x, e, h => by
    simp only [List.take_succ_cons, behE, beh, List.getElem?_cons_succ]
    exact beh_at r k x _ (by simpa using h)
theorem chain_at : ∀ (P : List (List At)) (k : Nat) (x e : List At), Chain (At.fromN e) P → P[k]? = some x → At.fromN x = At.fromN (behE (P.take k) e)
  | [], k, x, e, _, h => by simp at h
  | y :: r, 0, x, e, hc, h => by
    obtain rfl : y = x := by simpa using h
    simpa [behE] using hc.1
  | y :: r, k + 1, x, e, hc, h => by
    simp only [List.take_succ_cons, behE]
    have h1 := At.sizes y e hc.1
    exact chain_at r k x _ (by rw [At.can_from, h1.2.1]; exact hc.2) (by simpa using h)
theorem traB_no {la lb : List Pt} {n1 n2 t1 t2 : Nat} (h1 : IsEd la n1 t1) (h2 : IsEd lb n2 t2) (h : n1 ≠ n2) : traB la lb = false := by
  unfold traB checkE
  rw [ed_size h1, ed_size h2]
  show decide ((if (n2 : Int) = (n1 : Int) then (0 : Int) else 30) = 0) = false
  rw [if_neg (by omega)]
  rfl
def BehR (B : Nat) (P : List Pe) (e0 : List At) (w : World) (r : Ending) (w' : World) : Prop := ∃ v' P', r = .returned (.tuple #[v', .int .i64 0]) ∧ w'.ownsRow w.heap.size 32 1 v' P.length (P'.map Pe.v) ∧ ats P' = beh (ats P) e0 ∧ (∀ p ∈ P', PeOk w' p) ∧ Below w.heap.size w w'
set_option maxRecDepth 100000 in
set_option maxHeartbeats 4000000 in
theorem behind_any (a e : Option Addr) (n cap ce M q0 : Nat) (P : List Pe) (le : List Pt) (w : World) (hT : UT w) (hn : n ≤ 1000) (hPn : P.length = n) (hr : w.ownsRow 0 32 1 (.slice a n cap) n (P.map Pe.v)) (hP : ∀ p ∈ P, PeOk w p) (he : Edit w e le ce) (hnf : NfG 0 le) (hM : M + q0 ≤ 274877906944) (hS : Sz M (ats P)) (hc : Chain (At.fromN (atomsL le)) (ats P)) (hq : At.putsN (atomsL le) ≤ q0) (hf : At.fromN (atomsL le) ≤ M) (ht : At.toN (atomsL le) ≤ M + q0) :
    Calls Tryd.prog 40 #[.slice a n cap, .slice e le.length ce] w fun r w' => BehR 0 P (atomsL le) w r w' := by
  obtain ⟨i32, hi32, hz32, hs32, hb32⟩ := infoPl
  have hcap : n ≤ cap := by
    rcases hr.2 with ⟨e1, h0⟩ | ⟨g, c', cur, e1, _, _, h2, _⟩
    · omega
    · injection e1 with _ _ e1; omega
  refine (callsIn_wide (n := 6)).1 ?_
  refine callsIn_of_wp_marks Tryd.func40 rfl trivial ?_ rfl
  simp only [Tryd.ntmps40, List.size_toArray, List.length_cons, List.length_nil, Nat.reduceAdd, Nat.reduceSub, Array.replicate_succ, Array.replicate_zero, List.push_toArray, List.append_toArray, List.nil_append, List.cons_append]
  obtain ⟨w4, hmk, hown, hgr⟩ := run_make_full (P := Tryd.prog) (w := ((w.alloc (.cells #[.slice e le.length ce] 32)).alloc (.cells #[.slice none 0 0] 63)).alloc (.cells #[.int .i64 0] 35)) w.heap.size 63 32 i32 _ 1 Tryd.underlying63 hi32 hz32 hs32 .i64 .i64 n (by rw [hb32]; omega) (by unfold maxLen; omega) (by simp; omega)
  have HM := hide hown
  have HG := hide hgr
  have HALL := hide (And.intro hr (And.intro hP (And.intro he (And.intro hS (And.intro hc hT)))))
  clear hown hgr hr hP he hS hc hT
  gi_wp2
  refine ⟨trivial, (back70 a n cap _ 5).mono ?_⟩
  rintro e1 w5 ⟨rfl, rfl⟩
  clear hmk
  have b3 : Below w.heap.size w (((w.alloc (.cells #[.slice e le.length ce] 32)).alloc (.cells #[.slice none 0 0] 63)).alloc (.cells #[.int .i64 0] 35)) := (((Below.refl _ w).alloc (Nat.le_refl _) _).alloc (by simp) _).alloc (by simp; omega) _
  have r0 := RowAt.new w 32 [.slice e le.length ce]
  have r1 := RowAt.new (w.alloc (.cells #[.slice e le.length ce] 32)) 63 [.slice none 0 0]
  have r2 := RowAt.new ((w.alloc (.cells #[.slice e le.length ce] 32)).alloc (.cells #[.slice none 0 0] 63)) 35 [.int .i64 0]
  rw [size_alloc] at r1
  rw [size_alloc, size_alloc] at r2
  have k1 : Below (w.heap.size + 1) (w.alloc (.cells #[.slice e le.length ce] 32)) ((w.alloc (.cells #[.slice e le.length ce] 32)).alloc (.cells #[.slice none 0 0] 63)) := (Below.refl _ _).alloc (by simp) _
  have k2 : Below (w.heap.size + 1 + 1) ((w.alloc (.cells #[.slice e le.length ce] 32)).alloc (.cells #[.slice none 0 0] 63)) (((w.alloc (.cells #[.slice e le.length ce] 32)).alloc (.cells #[.slice none 0 0] 63)).alloc (.cells #[.int .i64 0] 35)) := (Below.refl _ _).alloc (by simp) _
  have r0 := (r0.below k1 (by omega)).below k2 (by omega)
  have r1 := r1.below k2 (by omega)
  have hz3 : (((w.alloc (.cells #[.slice e le.length ce] 32)).alloc (.cells #[.slice none 0 0] 63)).alloc (.cells #[.int .i64 0] 35)).heap.size = w.heap.size + 1 + 1 + 1 := by simp
  obtain ⟨w3, hw3⟩ : ∃ z, (((w.alloc (.cells #[.slice e le.length ce] 32)).alloc (.cells #[.slice none 0 0] 63)).alloc (.cells #[.int .i64 0] 35)) = z := ⟨_, rfl⟩
  rw [hw3] at r0 r1 r2 b3 hz3 HG HM
  clear hw3 k1 k2
  have o4 : Only (fun k => none = some k) w3 w4 := grown_only (unhide HG)
  have nf4 : ∀ k, (none : Option Nat) = some k → False := fun k e => by cases e
  have r0 := r0.only o4 (nf4 _)
  have r1 := r1.only o4 (nf4 _)
  have r2 := r2.only o4 (nf4 _)
  have b4 : Below w.heap.size w w4 := b3.trans (o4.below b3.size (fun k hk => (nf4 k hk).elim))
  have hown := unhide HM
  rw [hz3] at hown
  obtain ⟨cs, rr, hcl⟩ : ∃ cs, RowAt w4 (w.heap.size + 1 + 1 + 1) 32 cs ∧ cs.length = n := by
    rcases hown.2 with ⟨e1, h0⟩ | ⟨g, c', cur, e1, _, h1, _, _, h4, _⟩
    · cases e1
    · injection e1 with e1 e2 e3
      injection e1 with e1
      injection e1 with e1
      subst e1 e3
      exact ⟨cur.toList, h1, by simpa using h4⟩
  have hz4 : w.heap.size + 1 + 1 + 1 < w4.heap.size := rr.lt
  have k5 : Below w4.heap.size w4 (w4.alloc (.cells #[.slice (some ⟨w.heap.size + 1 + 1 + 1, 0, none⟩) n n] 63)) := (Below.refl _ _).alloc (Nat.le_refl _) _
  have k6 : Below w4.heap.size w4 ((w4.alloc (.cells #[.slice (some ⟨w.heap.size + 1 + 1 + 1, 0, none⟩) n n] 63)).alloc (.cells #[.slice a n cap] 63)) := k5.alloc (by simp) _
  have r3 := RowAt.new w4 63 [.slice (some ⟨w.heap.size + 1 + 1 + 1, 0, none⟩) n n]
  have r5 := RowAt.new (w4.alloc (.cells #[.slice (some ⟨w.heap.size + 1 + 1 + 1, 0, none⟩) n n] 63)) 63 [.slice a n cap]
  have r3 := r3.below (w' := (w4.alloc (.cells #[.slice (some ⟨w.heap.size + 1 + 1 + 1, 0, none⟩) n n] 63)).alloc (.cells #[.slice a n cap] 63)) (B := w4.heap.size + 1) ((Below.refl _ _).alloc (by simp) _) (by omega)
  rw [size_alloc] at r5
  have r0 := r0.below k6 r0.lt
  have r1 := r1.below k6 r1.lt
  have r2 := r2.below k6 r2.lt
  have rr := rr.below k6 rr.lt
  have b6 : Below w.heap.size w ((w4.alloc (.cells #[.slice (some ⟨w.heap.size + 1 + 1 + 1, 0, none⟩) n n] 63)).alloc (.cells #[.slice a n cap] 63)) := b4.trans (k6.mono b4.size)
  have hz6 : ((w4.alloc (.cells #[.slice (some ⟨w.heap.size + 1 + 1 + 1, 0, none⟩) n n] 63)).alloc (.cells #[.slice a n cap] 63)).heap.size = w4.heap.size + 1 + 1 := by simp
  obtain ⟨w6, hw6⟩ : ∃ z, ((w4.alloc (.cells #[.slice (some ⟨w.heap.size + 1 + 1 + 1, 0, none⟩) n n] 63)).alloc (.cells #[.slice a n cap] 63)) = z := ⟨_, rfl⟩
  rw [hw6] at r0 r1 r2 r3 r5 rr b6 hz6
  gi_wp2
  try rw [hw6]
  clear hw6 k5 k6
  obtain ⟨gr, hgr⟩ : ∃ z, w.heap.size + 1 + 1 + 1 = z := ⟨_, rfl⟩
  have n1 : gr ≠ w.heap.size := by omega
  have n1' : w.heap.size ≠ gr := by omega
  have lr : w.heap.size ≤ gr := by omega
  rw [hgr] at r3 rr ⊢
  obtain ⟨g5, hg5⟩ : ∃ z, w.heap.size + 1 + 1 = z := ⟨_, rfl⟩
  have n2 : g5 ≠ w.heap.size := by omega
  have l5 : w.heap.size ≤ g5 := by omega
  have n3 : g5 ≠ gr := by omega
  rw [hg5] at r2 ⊢
  obtain ⟨g4, hg4⟩ : ∃ z, w.heap.size + 1 = z := ⟨_, rfl⟩
  have n4 : g4 ≠ w.heap.size := by omega
  have l4 : w.heap.size ≤ g4 := by omega
  have n5 : g4 ≠ gr := by omega
  have n6 : g4 ≠ g5 := by omega
  have n6' : g5 ≠ g4 := by omega
  rw [hg4] at r1 ⊢
  obtain ⟨q, hqq⟩ : ∃ z, w4.heap.size + 1 = z := ⟨_, rfl⟩
  rw [hqq] at r5 ⊢
  obtain ⟨gl, hgl⟩ : ∃ z, w4.heap.size = z := ⟨_, rfl⟩
  rw [hgl] at r3 ⊢
  have lq : w.heap.size ≤ q := by omega
  have nq0 : w.heap.size ≠ q := by omega
  have nqr : gr ≠ q := by omega
  have n7 : gl ≠ gr := by omega
  have n8 : gl ≠ w.heap.size := by omega
  have n9 : gl ≠ g4 := by omega
  have n9' : gl ≠ g5 := by omega
  have lq6 : q < w6.heap.size := by omega
  clear hgr hg5 hg4 hqq hgl hz3 hz4 hz6 o4 nf4 hown b3 b4 HM HG
  obtain ⟨hr, hP, he, hS, hc, hT⟩ := unhide HALL
  have hzl : (P.map Pe.v).length = n := by rw [List.length_map, hPn]
  refine wpIn_rangeFunc_ownG rfl (by decide) (gf := 86) (lb := #[.pointer (some ⟨q, 0, none⟩)]) rfl trivial (enters_of Tryd.func86 (by kernel_rfl) rfl) (encs := bxE (zs := P.map Pe.v)) (Kp := Kb w.heap.size q) (S := fun ys => ys.map Subtype.val = bk (P.map Pe.v) n) (Sp := fun pre => ∃ k, k ≤ n ∧ pre.map Subtype.val = bk (P.map Pe.v) k) (N := n) (w0 := w6)
    (fun l J Jx W hW _ _ hY h0 => back1_in (6 - 1) (by decide) l q w.heap.size cap n a (P.map Pe.v) hzl hn hcap J Jx hY W ((r5.below hW lq6).cell 0) (fun j u hj => by
      rcases hr.2 with ⟨e1, h1⟩ | ⟨g, c', cur, e1, hg0, hrow, h2, _, _, h3⟩
      · rw [h1] at hPn
        rw [List.length_eq_zero_iff.1 hPn] at hj
        simp at hj
      · injection e1 with e1 e2 e3
        have hrow' : RowAt w g 32 cur.toList := hrow
        refine ⟨g, hrow'.lt, e1, ?_⟩
        have hb : Below w.heap.size w W := b6.trans (hW.mono b6.size)
        rw [(hrow'.below hb hrow'.lt).cell, ← hj, ← h3, List.getElem?_take_of_lt (by have := (List.getElem?_eq_some_iff.1 hj).1; omega)]) h0)
    (fun h k => h.trans k) (fun W l o o' hl ho hc1 hc2 i hi => by
      have : i ≠ l := by
        rcases hi with hi | rfl
        · have := b6.size; omega
        · omega
      exact World.putObj_heap_other this) (Below.refl _ _) (fun _ => rfl)
    (fun pre W => Bi w W M q0 w.heap.size gl gr g4 g5 (P.map Pe.v) P (atomsL le) pre ∧ q < W.heap.size)
    (fun c pre W => c = .ret ∧ ¬ pre.map Subtype.val = bk (P.map Pe.v) pre.length)
    (fun s A B' row hs hg' hr' => ⟨hs.1.grown (grown_only hg') (notcells hr') (hs.1.below.grown hg' hs.1.below.size (fun k hk => Nat.le_trans b6.size (hr' k hk).1)), Nat.lt_of_lt_of_le hs.2 hg'.size⟩)
    (fun c s A B' row hs hg' hr' => hs)
    ?hstart
    (fun x => { tmps := #[.slice a n cap, .slice e le.length ce, undef, .pointer (some ⟨w.heap.size, 0, none⟩), .pointer (some ⟨g4, 0, none⟩), .pointer (some ⟨g5, 0, none⟩), .pointer (some ⟨gl, 0, none⟩), .int .i64 (x.1.1 : Int), x.1.2, undef, undef, undef, .slice a n cap, .int .i64 n, .slice (some ⟨gr, 0, none⟩) n n, .slice a n cap, .func (.func 86) #[] #[.pointer (some ⟨q, 0, none⟩)], .int .i64 (x.1.1 : Int), x.1.2, undef, undef, undef, undef, undef, undef, undef, undef, undef, undef, undef, undef, undef, undef, undef], defers := [] }) ?assign ?body ?done ?stop
  case hstart =>
    refine ⟨⟨b6, ⟨_, le, r0, ⟨e, ce, rfl, .inl he⟩, hnf, by omega, ht, hq, fun _ => by simp [behE]⟩, ⟨cs, rr, by rw [hcl, hzl], fun _ k m x hk => by simp at hk⟩, by rw [hzl]; exact r3, r1, r2⟩, lq6⟩
  case assign =>
    intro l x W K hK
    unfold bxE
    gi_wp2
    exact hK
  case body =>
    rintro l pre x W ⟨hB, hqW⟩ hlen
    have hxi' := x.2
    obtain ⟨i, hi⟩ : ∃ z, x.1.1 = z := ⟨_, rfl⟩
    obtain ⟨u, hu⟩ : ∃ z, x.1.2 = z := ⟨_, rfl⟩
    rw [hi, hu] at hxi'
    simp only [hi, hu]
    have HX := hide (And.intro hi hu)
    clear hi hu
    obtain ⟨p, hpi, hpv⟩ : ∃ p, P[i]? = some p ∧ p.v = u := by
      rw [List.getElem?_map] at hxi'
      cases h9 : P[i]? with
      | none => rw [h9] at hxi'; cases hxi'
      | some p => rw [h9] at hxi'; exact ⟨p, rfl, by simpa using hxi'⟩
    have hin : i < n := by rw [← hPn]; exact (List.getElem?_eq_some_iff.1 hpi).1
    have hmem := List.mem_of_getElem? hpi
    obtain ⟨ve, lb, hr0, hv, nfb, sf, st, sp, hgood⟩ := hB.box
    obtain ⟨c1, hrow, hcl1, hx⟩ := hB.row
    have hpk : PeOk W p := (hP p hmem).call hB.below
    have hMp := hS _ (ats_mem hmem)
    have eda := nf_ed (M := M) hpk.nf (by omega) hMp.1 hMp.2
    have edb := nf_ed nfb (by omega) sf st
    have lna := nf_len hpk.nf
    have lnb := nf_len nfb
    obtain ⟨aa, ca, hva, Ea⟩ := hpk.own.edit (ed_txt eda) (by omega)
    obtain ⟨ab, cb, hvb, Eb⟩ := hv.edit hB.below edb (by omega)
    subst hvb
    have hu : u = .slice aa p.l.length ca := by rw [← hpv, hva]
    subst hu
    obtain ⟨na, hna⟩ : ∃ z, p.l.length = z := ⟨_, rfl⟩
    obtain ⟨nb, hnb⟩ : ∃ z, lb.length = z := ⟨_, rfl⟩
    have HTR := hide (transform_at (w := W) (hT.call hB.below) Ea Eb hna hnb (by omega) (Below.refl _ _))
    have q0' := hr0.cell 0
    rw [hnb] at q0'
    simp only [hna]
    simp only [List.getElem?_cons_zero] at q0'
    have HQ := hide (And.intro hr0 (And.intro hrow (And.intro hcl1 (And.intro hB (And.intro hx (And.intro hgood (And.intro hpk hv)))))))
    clear hr0 hrow hcl1 hB hx hgood hpk hr hP he hS hc hT hv Ea Eb r0 r1 r2 r3 r5 rr hxi'
    gi_wp2
    refine ⟨trivial, (CallsIn.inRound l (callsIn_wide.2 (unhide HTR))).mono ?_⟩
    rintro r w1 ⟨hR, hbR⟩
    obtain ⟨hr0, hrow, hcl1, hB, hx, hgood, hpk, hv⟩ := unhide HQ
    obtain ⟨hr, hP, he, hS, hc, hT⟩ := unhide HALL
    have t0 := hr0.below hbR hr0.lt
    have tr := hrow.below hbR hrow.lt
    have tl := hB.lbox.below hbR hB.lbox.lt
    have t4 := hB.r4.below hbR hB.r4.lt
    have t5 := hB.r5.below hbR hB.r5.lt
    have bw1 : Below w.heap.size w w1 := hB.below.trans (hbR.mono hB.below.size)
    have hxi : i = x.1.1 := (unhide HX).1.symm
    by_cases hfe : At.fromN (atomsL p.l) = At.fromN (atomsL lb)
    · obtain ⟨k1, k2, nf1, nf2, at1, at2, ln1, ln2, f1, f2, tt, hres⟩ := tra_ok hR (hfe ▸ eda) edb
      have hto : At.toN (atomsL k2) ≤ M + q0 := by rw [at2]; have := two_to hfe; omega
      rcases hres with ⟨big, _⟩ | ⟨ed1, ed2, v1, v2, rfl, o1, o2⟩
      · exfalso; omega
      obtain ⟨a1, d1, rfl, _⟩ := o1.open
      obtain ⟨a2, d2, rfl, _⟩ := o2.open
      obtain ⟨m1, hm1⟩ : ∃ z, k1.length = z := ⟨_, rfl⟩
      obtain ⟨m2, hm2⟩ : ∃ z, k2.length = z := ⟨_, rfl⟩
      rw [hm1] at o1 ⊢
      rw [hm2] at o2 ⊢
      have q1 := tl.cell 0
      have qe := t0.cell 0
      have fe := t0.frozen 0
      have fi := tr.frozen i
      obtain ⟨ci, hci⟩ : ∃ u, c1[i]? = some u := ⟨_, List.getElem?_eq_getElem (by rw [hcl1, hzl]; exact hin)⟩
      have qi : w1.cell? ⟨gr, i, none⟩ = some ci := by rw [tr.cell, hci]
      simp only [List.getElem?_cons_zero, hzl] at q1 qe
      have i0 : (0 : Int) ≤ (i : Int) := by omega
      have i1 : (i : Int) < (n : Int) := by omega
      have o7 : Only (fun k => k = gr ∨ k = w.heap.size) w1 ((w1.setCell ⟨gr, i, none⟩ (.slice a1 m1 d1)).setCell ⟨w.heap.size, 0, none⟩ (.slice a2 m2 d2)) := Only.set (p := fun k => k = gr ∨ k = w.heap.size) (Only.set (p := fun k => k = gr ∨ k = w.heap.size) (Only.refl _ _) gr i _ (.inl rfl)) w.heap.size 0 _ (.inr rfl)
      have tags : ∀ {v : Value} {l : List Pt}, OwnP w1 0 v l → OwnP ((w1.setCell ⟨gr, i, none⟩ (.slice a1 m1 d1)).setCell ⟨w.heap.size, 0, none⟩ (.slice a2 m2 d2)) 0 v l := fun ho => own_only ho o7 (fun k hk hp => by
        rcases hp with rfl | rfl
        · exact tag_ne ho tr (by decide) hk
        · exact tag_ne ho t0 (by decide) hk)
      have HE : Hid (KeepsFrom w6.heap.size W ((w1.setCell ⟨gr, i, none⟩ (.slice a1 m1 d1)).setCell ⟨w.heap.size, 0, none⟩ (.slice a2 m2 d2)) ∧ Kb w.heap.size q W ((w1.setCell ⟨gr, i, none⟩ (.slice a1 m1 d1)).setCell ⟨w.heap.size, 0, none⟩ (.slice a2 m2 d2)) ∧ Bi w ((w1.setCell ⟨gr, i, none⟩ (.slice a1 m1 d1)).setCell ⟨w.heap.size, 0, none⟩ (.slice a2 m2 d2)) M q0 w.heap.size gl gr g4 g5 (P.map Pe.v) P (atomsL le) (pre ++ [x]) ∧ q < ((w1.setCell ⟨gr, i, none⟩ (.slice a1 m1 d1)).setCell ⟨w.heap.size, 0, none⟩ (.slice a2 m2 d2)).heap.size) := hide (by
        refine ⟨(belowFrom hbR _).trans (((KeepsOthers.setCell _ _ _).trans (KeepsOthers.setCell _ _ _)).from _), fun j hj => ?_, ?_, Nat.lt_of_lt_of_le hqW (Nat.le_trans hbR.size o7.size)⟩
        · have hjW : j < W.heap.size := by
            rcases hj with hj | rfl
            · have := hB.below.size; omega
            · exact hqW
          rw [o7.block j (Nat.lt_of_lt_of_le hjW hbR.size) (by omega), hbR.block j hjW]
        · have hsplit : (pre ++ [x]).map Subtype.val = bk (P.map Pe.v) (pre ++ [x]).length → pre.map Subtype.val = bk (P.map Pe.v) pre.length ∧ i + 1 + pre.length = n := fun hg => by
            rw [List.map_append, List.length_append, List.length_singleton] at hg
            obtain ⟨g1, g2⟩ := List.append_inj' hg rfl
            refine ⟨g1, ?_⟩
            have g3 := (List.cons.inj (show [x.1] = _ from g2)).1
            have g4 := congrArg Prod.fst g3
            rw [← hxi] at g4
            simp only [hzl] at g4
            omega
          have hat : i + 1 + pre.length = n → (ats P)[pre.length]? = some (atomsL p.l) := fun h9 => ats_at hpi (by rw [hPn]; exact h9)
          refine ⟨bw1.trans (o7.below bw1.size (fun k hk => by rcases hk with rfl | rfl; exact lr; exact Nat.le_refl _)), ⟨.slice a2 m2 d2, k2, (t0.only (Only.set (p := (· = gr)) (Only.refl _ _) gr i _ rfl) n1').set 0 _, ⟨a2, d2, by rw [hm2], .inr (tags (own_base o2 (Nat.zero_le _)))⟩, nf2, by omega, hto, by rw [at2, two_puts hfe]; exact sp, fun hg => ?_⟩, ⟨c1.set i (.slice a1 m1 d1), (tr.set i _).only (Only.set (p := (· = w.heap.size)) (Only.refl _ _) w.heap.size 0 _ rfl) n1, by rw [List.length_set]; exact hcl1, fun hg k m xx hk hm hxx => ?_⟩, tl.only o7 (by omega), t4.only o7 (by omega), t5.only o7 (by omega)⟩
          · obtain ⟨g1, g2⟩ := hsplit hg
            rw [List.length_append, List.length_singleton, behE_next _ _ _ _ (hat g2), ← hgood g1]
            exact at2
          · obtain ⟨g1, g2⟩ := hsplit hg
            rw [List.length_append, List.length_singleton] at hk
            rw [hzl] at hm
            by_cases hkp : k = pre.length
            · subst hkp
              obtain rfl : m = i := by omega
              rw [beh_at _ _ _ _ (hat g2), ← hgood g1] at hxx
              injection hxx with hxx
              refine ⟨_, k1, by rw [List.getElem?_set_self (by rw [hcl1, hzl]; exact hin)], ?_, nf1, by rw [← hxx]; exact at1⟩
              exact tags (own_base o1 (Nat.zero_le _))
            · obtain ⟨v9, l9, j1, j2, j3, j4⟩ := hx g1 k m xx (by omega) (by rw [hzl]; exact hm) hxx
              exact ⟨v9, l9, by rw [List.getElem?_set_ne (by omega)]; exact j1, tags (OwnP.call j2 hbR), j3, j4⟩)
      clear hR hbR hr0 hrow hcl1 hB hx hgood hpk hv hr hP he hS hc hT t0 tr tl t4 t5 bw1 hxi o7 tags at1 at2 nf1 nf2 ed1 ed2 f1 f2 tt o1 o2 hto HQ HTR HX hci
      gi_wp2
      exact unhide HE
    · have hno := traB_no eda edb hfe
      have hRr : r = .returned (.tuple #[.slice none 0 0, .slice none 0 0, .int .i64 30]) := by
        rcases hR.1 with ⟨_, h9⟩ | ⟨h9, _⟩
        · exact h9
        · rw [hno] at h9; cases h9
      subst hRr
      have q4 := t4.cell 0
      have f4 := t4.frozen 0
      have q5 := t5.cell 0
      have f5 := t5.frozen 0
      simp only [List.getElem?_cons_zero] at q4 q5
      have HE : Hid (KeepsFrom w6.heap.size W ((w1.setCell ⟨g4, 0, none⟩ (.slice none 0 0)).setCell ⟨g5, 0, none⟩ (.int .i64 4)) ∧ ¬ (pre ++ [x]).map Subtype.val = bk (P.map Pe.v) (pre ++ [x]).length) := hide (by
        refine ⟨(belowFrom hbR _).trans (((KeepsOthers.setCell _ _ _).trans (KeepsOthers.setCell _ _ _)).from _), fun hg => ?_⟩
        rw [List.map_append, List.length_append, List.length_singleton] at hg
        obtain ⟨g1, g2⟩ := List.append_inj' hg rfl
        have g3 := (List.cons.inj (show [x.1] = _ from g2)).1
        have g4 := congrArg Prod.fst g3
        rw [← hxi] at g4
        simp only [hzl] at g4
        have g5 := chain_at (ats P) pre.length (atomsL p.l) (atomsL le) hc (ats_at hpi (by rw [hPn]; omega))
        rw [← hgood g1] at g5
        exact hfe g5)
      clear hR hbR hr0 hrow hcl1 hB hx hgood hpk hv hr hP he hS hc hT t0 tr tl t4 t5 bw1 hxi hno HQ HTR HX
      gi_wp2
      exact ⟨(unhide HE).1, rfl, (unhide HE).2⟩
  case done =>
    rintro D ys W hD hys ⟨hB, hqW⟩ hK
    obtain ⟨hr, hP, he, hS, hc, hT⟩ := unhide HALL
    obtain ⟨cs1, hrow, hcl1, hx⟩ := hB.row
    have q1 := hB.lbox.cell 0
    have q4 := hB.r4.cell 0
    have f4 := hB.r4.frozen 0
    have q5 := hB.r5.cell 0
    have f5 := hB.r5.frozen 0
    simp only [List.getElem?_cons_zero, hzl] at q1 q4 q5
    have HQ := hide (And.intro hB (And.intro hrow (And.intro hcl1 hx)))
    clear hB hrow hcl1 hx hr hP he hS hc hT r0 r1 r2 r3 r5 rr
    gi_wp2
    obtain ⟨hB, hrow, hcl1, hx⟩ := unhide HQ
    have hyl : ys.length = n := by have := congrArg List.length hys; rwa [List.length_map, bk_len] at this
    have hK' : ((W.setCell ⟨g4, 0, none⟩ (.slice (some ⟨gr, 0, none⟩) n n)).setCell ⟨g5, 0, none⟩ (.int .i64 0)).heap[D]? = some (.deferred (some [])) := ((KeepsOthers.setCell W ⟨g4, 0, none⟩ (.slice (some ⟨gr, 0, none⟩) n n)).trans (KeepsOthers.setCell _ ⟨g5, 0, none⟩ (.int .i64 0))).same D _ hK rfl
    have o1 : Only (fun k => k = g4 ∨ k = g5 ∨ k = D) W ((W.setCell ⟨g4, 0, none⟩ (.slice (some ⟨gr, 0, none⟩) n n)).setCell ⟨g5, 0, none⟩ (.int .i64 0)) := Only.set (p := fun k => k = g4 ∨ k = g5 ∨ k = D) (Only.set (p := fun k => k = g4 ∨ k = g5 ∨ k = D) (Only.refl _ _) g4 0 _ (.inl rfl)) g5 0 _ (.inr (.inl rfl))
    have c4 := ((hB.r4.set 0 (.slice (some ⟨gr, 0, none⟩) n n)).only (Only.set (p := (· = g5)) (Only.refl _ _) g5 0 (.int .i64 0) rfl) n6).cell 0
    have c5 := ((hB.r5.only (Only.set (p := (· = g4)) (Only.refl _ _) g4 0 (.slice (some ⟨gr, 0, none⟩) n n) rfl) n6').set 0 (.int .i64 0)).cell 0
    simp only [List.set_cons_zero, List.getElem?_cons_zero] at c4 c5
    obtain ⟨W2, hW2⟩ : ∃ z, ((W.setCell ⟨g4, 0, none⟩ (.slice (some ⟨gr, 0, none⟩) n n)).setCell ⟨g5, 0, none⟩ (.int .i64 0)) = z := ⟨_, rfl⟩
    rw [hW2] at hK' o1 c4 c5 ⊢
    clear hW2
    refine ⟨by simp, .inl ⟨_, _, rfl, run_takeDeferred hK', ?_⟩⟩
    have k4 := cell_kept c4 (grownBy_putObj' _ D (.deferred none)) (fun r e => by cases e; exact ⟨_, hK', rfl⟩)
    have k5 := cell_kept c5 (grownBy_putObj' _ D (.deferred none)) (fun r e => by cases e; exact ⟨_, hK', rfl⟩)
    have oF : Only (fun k => k = g4 ∨ k = g5 ∨ k = D) W (W2.putObj D (.deferred none)) := o1.trans ((grown_only (grownBy_putObj' W2 D (.deferred none))).mono (fun k hk => .inr (.inr (by injection hk with hk; exact hk.symm))))
    obtain ⟨WF, hWF⟩ : ∃ z, W2.putObj D (.deferred none) = z := ⟨_, rfl⟩
    rw [hWF] at k4 k5 oF ⊢
    have nD : ∀ {g : Nat} {t : TypeId} {cs : List Value}, RowAt W g t cs → g ≠ D := fun h e => by
      rw [e] at h
      have h' : W.heap[D]? = some (.cells _ _ _) := h
      rw [hK] at h'
      cases h'
    have rF := hrow.only oF (fun e => by
      rcases e with e | e | e
      · omega
      · omega
      · exact nD hrow e)
    have tagF : ∀ {v : Value} {l : List Pt}, OwnP W 0 v l → OwnP WF 0 v l := fun ho => own_only ho oF (fun k hk hp => by
      rcases hp with rfl | rfl | rfl
      · exact tag_ne ho hB.r4 (by decide) hk
      · exact tag_ne ho hB.r5 (by decide) hk
      · rcases ho.2 with ⟨e5, _⟩ | ⟨g, c', cur, e5, _, hrow', _⟩
        · rw [e5] at hk; cases hk
        · rw [e5] at hk
          have : g = k := by injection hk
          subst this
          exact nD (show RowAt W g 38 cur.toList from hrow') rfl)
    have hall : ∀ m, m < n → ∃ pe : Pe, cs1[m]? = some pe.v ∧ OwnP WF 0 pe.v pe.l ∧ NfG 0 pe.l ∧ (beh (ats P) (atomsL le))[n - 1 - m]? = some (atomsL pe.l) := fun m hm => by
      obtain ⟨xx, hxx⟩ : ∃ x, (beh (ats P) (atomsL le))[n - 1 - m]? = some x := ⟨_, List.getElem?_eq_getElem (by rw [beh_len, ats_len, hPn]; omega)⟩
      obtain ⟨v9, l9, j1, j2, j3, j4⟩ := hx (by rw [hyl]; exact hys) (n - 1 - m) m xx (by omega) (by rw [hzl]; omega) hxx
      exact ⟨⟨v9, l9⟩, j1, tagF j2, j3, by rw [hxx, j4]⟩
    obtain ⟨P', hPl, hPa⟩ := list_of hall
    have hvs : cs1 = P'.map Pe.v := by
      apply List.ext_getElem?
      intro m
      by_cases hm : m < n
      · obtain ⟨pe, hpe⟩ : ∃ pe, P'[m]? = some pe := ⟨_, List.getElem?_eq_getElem (by omega)⟩
        rw [List.getElem?_map, hpe, (hPa m pe hpe).1]
        rfl
      · rw [List.getElem?_eq_none (by rw [hcl1, hzl]; omega), List.getElem?_eq_none (by rw [List.length_map]; omega)]
    have hat : ats P' = beh (ats P) (atomsL le) := by
      apply List.ext_getElem?
      intro k
      by_cases hk : k < n
      · obtain ⟨pe, hpe⟩ : ∃ pe, P'[n - 1 - k]? = some pe := ⟨_, List.getElem?_eq_getElem (by omega)⟩
        rw [ats_at hpe (by omega), ← (hPa _ pe hpe).2.2.2]
        congr 1
        omega
      · rw [List.getElem?_eq_none (by rw [ats_len]; omega), List.getElem?_eq_none (by rw [beh_len, ats_len]; omega)]
    refine ⟨.tuple #[.slice (some ⟨gr, 0, none⟩) n n, .int .i64 0], by simp [results, Tryd.f40, go_sem, k4, k5], _, P', rfl, ?_, hat, fun p hp => ?_, hB.below.trans (oF.below hB.below.size (fun k hk => by
      rcases hk with rfl | rfl | rfl
      · exact l4
      · exact l5
      · have := b6.size; omega))⟩
    · rw [hPn, ← hvs]
      exact row_pl lr rF (Nat.le_refl _) (by unfold maxLen; omega) (by rw [hcl1, hzl]) (List.take_of_length_le (by rw [hcl1, hzl]; exact Nat.le_refl _))
    · obtain ⟨m, hm⟩ := List.getElem?_of_mem hp
      exact ⟨(hPa m p hm).2.1, (hPa m p hm).2.2.1⟩
  case stop =>
    rintro D c pre W hD ⟨k, hk, hpre⟩ ⟨rfl, hx⟩ hK
    exact absurd (by rw [hpre]; congr 1; have := congrArg List.length hpre; rw [List.length_map, bk_len] at this; exact this.symm) hx
end Go.Proofs.YtihiengejpjbkaaDoor
