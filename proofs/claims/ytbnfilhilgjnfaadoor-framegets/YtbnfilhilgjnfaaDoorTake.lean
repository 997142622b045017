/- Bytes taken into a digest. -/
import Derived.Test.YtbnfilhilgjnfaaDoorDig
namespace Go.Proofs.YtbnfilhilgjnfaaDoor
set_option linter.unusedVariables false
set_option linter.unusedSimpArgs false
open Go.ChangeShapes Go.WideShapes Go.ChangeAt Go.RowKit

theorem run_slice_from {P : Program} (w : World) (t e : TypeId) (g off k n : Nat) (hu : P.underlying t = some (.array n e)) (hz : (P.info? e).map (·.size) = some 1) (hk : k < n) :
    (Instr.sliceAt t (.pointer (some ⟨g, off, none⟩)) (some (.int .i64 (k : Int))) none none).run P w = .ok (.slice (some ⟨g, off + k, none⟩) (n - k) (n - k)) w := by
  have h1 : ¬ (k : Int) < 0 := by omega
  have h2 : ¬ (n : Int) < (k : Int) := by omega
  have h3 : ¬ n = k := by omega
  have h4 : k ≤ n := by omega
  simp [Instr.sliceAt, run_underlying hu, Instr.sureAddr, Instr.sliceBounds, Instr.sliceBound, asIntOf, h1, h2, h3, h4, run_size hz, add_plain]
theorem wpQuiet_slice {P : Program} {ops : Array Oper} {C : World → Prop} {Q : Act → Prop} {a : Act} {o : Oper} {rest : List Oper} (hgd : o.guard = none) (t e : TypeId) (x lo : Operand) (ho : o.op = .slice t x (some lo) none none) (g off k n : Nat) (hx : a.eval x = .pointer (some ⟨g, off, none⟩)) (hlo : a.eval lo = .int .i64 (k : Int))
    (hu : P.underlying t = some (.array n e)) (hz : (P.info? e).map (·.size) = some 1) (hk : k < n) (h : wpQuiet P ops C Q rest (a.put o.dst (.slice (some ⟨g, off + k, none⟩) (n - k) (n - k)))) : wpQuiet P ops C Q (o :: rest) a := by
  refine wpQuiet_step fun K hK => ?_
  have hw : Region.wanted o (yielded ops a.tmps) = true := by simp [Region.wanted, hgd]
  rw [if_pos hw]
  refine ⟨_, fun w hC => ?_, hK _ h⟩
  unfold Oper.quietAt execOp
  simp only [ho, hx, hlo, Option.map_some, Option.map_none, Sem.run_bind, Sem.run_pure, Result.andThen_ok, run_slice_from w t e g off k n hu hz hk, Oper.quietUpon]
  exact ⟨trivial, trivial⟩

/-- a slice whose elements are these bytes -/
def Byt (w : World) (v : Value) (l : List Nat) : Prop :=
  (v = .slice none 0 0 ∧ l = []) ∨ ∃ a cap, v = .slice (some a) l.length cap ∧ l.length ≤ cap ∧ cap ≤ maxLen ∧ ∀ (i y : Nat), l[i]? = some y → w.cell? (a.add i) = some (.int .u8 (y : Int))
theorem Byt.call {w w1 : World} {v : Value} {l : List Nat} (h : Byt w v l) (hb : Below w.heap.size w w1) : Byt w1 v l := by
  rcases h with h | ⟨a, cap, hv, h1, h2, h3⟩
  · exact .inl h
  · refine .inr ⟨a, cap, hv, h1, h2, fun i y hy => ?_⟩
    have := h3 i y hy
    exact cell_keep hb (lt_of_cell this) this
theorem byt_shape {w : World} {v : Value} {l : List Nat} (h : Byt w v l) : ∃ a cap, v = .slice a l.length cap := by
  rcases h with ⟨rfl, rfl⟩ | ⟨a, cap, rfl, _⟩
  · exact ⟨none, 0, rfl⟩
  · exact ⟨some a, cap, rfl⟩
def lenOf : Value → Nat
  | .slice _ n _ => n
  | _ => 0
/-- whose block is none of these -/
def Off (v : Value) (p : Nat → Prop) : Prop := ∀ k, v.ownBlock = some k → ¬ p k
theorem Only.byt {p : Nat → Prop} {a b : World} (h : Only p a b) {v : Value} {l : List Nat} (hb : Byt a v l) (hv : Off v p) : Byt b v l := by
  rcases hb with hb | ⟨ad, cap, rfl, h1, h2, h3⟩
  · exact .inl hb
  · refine .inr ⟨ad, cap, rfl, h1, h2, fun i y hy => ?_⟩
    exact h.cell (by rw [add_block]; exact hv _ rfl) (h3 i y hy)

theorem putAt_mid (x y z l : List Value) (k o : Nat) (hx : x.length = k) (ho : o + l.length ≤ y.length) : putAt (x ++ (y ++ z)) (k + o) l = x ++ (putAt y o l ++ z) := by
  subst hx
  unfold putAt
  rw [List.take_length_add_append, Nat.add_assoc, List.drop_length_add_append, List.take_append_of_le_length (by omega), List.drop_append_of_le_length (by omega)]
  simp
def putL (b : List Nat) (o : Nat) (r : List Nat) : List Nat := b.take o ++ r ++ b.drop (o + r.length)
theorem putL_len (b : List Nat) (o : Nat) (r : List Nat) (h : o + r.length ≤ b.length) : (putL b o r).length = b.length := by simp [putL]; omega
theorem putL_8 {b r : List Nat} (o : Nat) (hb : U8 b) (hr : U8 r) : U8 (putL b o r) := by
  intro y hy
  simp only [putL, List.mem_append] at hy
  rcases hy with (hy | hy) | hy
  · exact hb y (List.mem_of_mem_take hy)
  · exact hr y hy
  · exact hb y (List.mem_of_mem_drop hy)
theorem putL_take (b : List Nat) (o : Nat) (r : List Nat) (h : o ≤ b.length) : (putL b o r).take (o + r.length) = b.take o ++ r := by
  have h1 : (b.take o ++ r).length = o + r.length := by simp; omega
  rw [putL, ← h1, List.take_left]
theorem dcells_put (h blk r : List Nat) (o held folded : Nat) (made : Bool) (hh : h.length = 8) (ho : o + r.length ≤ blk.length) : putAt (dcells h blk held folded made) (8 + o) (bv r) = dcells h (putL blk o r) held folded made := by
  unfold dcells
  rw [putAt_mid _ _ _ _ 8 o (by rw [u32v_len, hh]) (by rw [bv_len, bv_len]; exact ho)]
  congr 2
  simp [putAt, putL, bv, List.map_take, List.map_drop]

/-- the state behind so many blocks -/
def hsK (h0 all : List Nat) : Nat → List Nat
  | 0 => h0
  | k + 1 => foldL (hsK h0 all k) ((all.drop (64 * k)).take 64) (64 * k + 64) false
theorem hsK_len (h0 all : List Nat) (h : h0.length = 8) : ∀ k, (hsK h0 all k).length = 8
  | 0 => h
  | k + 1 => foldL_len _ _ _ _
theorem hsK_32 {h0 : List Nat} (all : List Nat) (h : W32 h0) : ∀ k, 64 * k + 64 < 18446744073709551616 → W32 (hsK h0 all k)
  | 0, _ => h
  | k + 1, hk => foldL_32 false (hsK_32 all h k (by omega)) (by omega)
theorem hsK_more (h0 all m : List Nat) : ∀ k, 64 * k ≤ all.length → hsK h0 (all ++ m) k = hsK h0 all k
  | 0, _ => rfl
  | k + 1, hk => by
    rw [hsK, hsK, hsK_more h0 all m k (by omega), List.drop_append_of_le_length (by omega), List.take_append_of_le_length (by rw [List.length_drop]; omega)]

/-- a digest that took these bytes, the first nf blocks folded in -/
def DgAt (w : World) (g : Nat) (h0 all : List Nat) (nf : Nat) : Prop :=
  ∃ blk, blk.length = 64 ∧ U8 blk ∧ 64 * nf ≤ all.length ∧ all.length ≤ 64 * nf + 64 ∧ blk.take (all.length - 64 * nf) = all.drop (64 * nf) ∧ RowAt w g 107 (dcells (hsK h0 all nf) blk (all.length - 64 * nf) (64 * nf) true)
theorem DgAt.only {p : Nat → Prop} {w w' : World} {g nf : Nat} {h0 all : List Nat} (h : DgAt w g h0 all nf) (ho : Only p w w') (hg : ¬ p g) : DgAt w' g h0 all nf := by
  obtain ⟨blk, h1, h2, h3, h4, h5, h6⟩ := h
  exact ⟨blk, h1, h2, h3, h4, h5, h6.only ho hg⟩
theorem DgAt.lt {w : World} {g nf : Nat} {h0 all : List Nat} (h : DgAt w g h0 all nf) : g < w.heap.size := by
  obtain ⟨blk, _, _, _, _, _, h6⟩ := h
  exact h6.lt

theorem DgAt.step {w : World} {g : Nat} {h0 A blk r : List Nat} {nf n hd fd : Nat} {Hs : List Nat} (hb : blk.length = 64) (hb8 : U8 blk) (hr8 : U8 r) (hfd : 64 * nf = fd) (hhd : A.length - fd = hd) (h1 : fd ≤ A.length) (hn : n ≤ r.length) (hle : hd + n ≤ 64) (ht : blk.take hd = A.drop fd) (hHs : hsK h0 A nf = Hs)
    (hrow : RowAt w g 107 (dcells Hs (putL blk hd (r.take n)) (hd + n) fd true)) : DgAt w g h0 (A ++ r.take n) nf := by
  subst hfd hhd hHs
  have hl : (r.take n).length = n := by rw [List.length_take]; omega
  refine ⟨putL blk (A.length - 64 * nf) (r.take n), ?_, ?_, ?_, ?_, ?_, ?_⟩
  · rw [putL_len _ _ _ (by omega), hb]
  · exact putL_8 _ hb8 (fun y hy => hr8 y (List.mem_of_mem_take hy))
  · rw [List.length_append]; omega
  · rw [List.length_append, hl]; omega
  · rw [List.length_append, hl, show A.length + n - 64 * nf = A.length - 64 * nf + (r.take n).length by omega, putL_take _ _ _ (by omega), ht, List.drop_append_of_le_length h1]
  · rw [hsK_more _ _ _ _ h1, List.length_append, hl, show A.length + n - 64 * nf = A.length - 64 * nf + n by omega]
    exact hrow
theorem DgAt.fold {A blk h0 : List Nat} {nf : Nat} (hb : blk.length = 64) (h : A.length = 64 * nf + 64) (ht : blk.take 64 = A.drop (64 * nf)) : foldL (hsK h0 A nf) blk (64 * nf + 64) false = hsK h0 A (nf + 1) := by
  rw [List.take_of_length_le (by omega)] at ht
  rw [hsK, ← ht, List.take_of_length_le (by omega)]
theorem add_add (a : Addr) (n i : Nat) : (a.add n).add i = a.add (n + i) := by
  obtain ⟨b, o, s⟩ := a
  unfold Addr.add
  by_cases h1 : n = 0 <;> by_cases h2 : i = 0 <;> simp [h1, h2, Nat.add_assoc]

theorem Byt.tail {w : World} {ad : Addr} {c R n : Nat} {r : List Nat} (hb : ∀ (i y : Nat), r[i]? = some y → w.cell? (ad.add i) = some (.int .u8 (y : Int))) (hRL : r.length = R) (hRC : R ≤ c) (hCM : c ≤ maxLen) (hn : n ≤ R) : Byt w (.slice (if c = n then some ad else some (ad.add n)) (R - n) (c - n)) (r.drop n) := by
  have hl : (r.drop n).length = R - n := by rw [List.length_drop, hRL]
  by_cases h : c = n
  · refine .inr ⟨ad, c - n, by rw [if_pos h, hl], by omega, by omega, fun i y hy => ?_⟩
    have := (List.getElem?_eq_some_iff.1 hy).1
    omega
  · refine .inr ⟨ad.add n, c - n, by rw [if_neg h, hl], by omega, by omega, fun i y hy => ?_⟩
    rw [add_add]
    exact hb (n + i) y (by rw [List.getElem?_drop] at hy; exact hy)

set_option maxRecDepth 100000 in
set_option maxHeartbeats 4000000 in
theorem take_any (g : Nat) (h0 all l : List Nat) (nf : Nat) (v : Value) (w : World) (hT : Tabs w) (hg2 : 7 ≤ g) (hh : h0.length = 8) (h32 : W32 h0) (hd : DgAt w g h0 all nf) (hc : nf = 0 ∨ 64 * nf < all.length) (ha8 : U8 all) (hv : Byt w v l) (hoff : Off v (· = g)) (hl8 : U8 l) (hbig : all.length + l.length ≤ 1000000000) :
    Calls Tryd.prog 84 #[.pointer (some ⟨g, 0, none⟩), v] w
      fun e w' => e = .returned (.tuple #[]) ∧ (∃ nf', DgAt w' g h0 (all ++ l) nf' ∧ (nf' = 0 ∨ 64 * nf' < (all ++ l).length)) ∧ Only (· = g) w w' := by
  have HT := hide hT
  have HD := hide hd
  have HV := hide hv
  have HF := hide hoff
  have H8 := hide hl8
  have HC := hide hc
  obtain ⟨a0, c0, rfl⟩ := byt_shape hv
  clear hT hd hv hoff hl8 hc
  go_enter Tryd.func84, Tryd.ntmps84
  go_wp2_with fail
  go_loopw [1] (fun s wr => ∃ (j nf : Nat), j ≤ l.length ∧ (∃ a c, s = .slice a (l.length - j) c) ∧ Hid (Byt wr s (l.drop j) ∧ Off s (· = g) ∧ DgAt wr g h0 (all ++ l.take j) nf ∧ (nf = 0 ∨ 64 * nf < (all ++ l.take j).length) ∧ Only (· = g) w wr)) (fun s _ => lenOf s)
  case atStart => exact ⟨0, nf, by omega, ⟨_, _, rfl⟩, by simpa using unhide HV, unhide HF, by simpa using unhide HD, by simpa using unhide HC, Only.refl _ _⟩
  case round =>
    obtain ⟨j, nf, hj, ⟨a, c, rfl⟩, HB⟩ := hrel
    obtain ⟨R, hR⟩ : ∃ R, l.length - j = R := ⟨_, rfl⟩
    rw [hR] at HB ⊢
    by_cases hR0 : R = 0
    · have hjl : j = l.length := by omega
      rw [hjl, List.take_length] at HB
      have hRI : ¬ (0 : Int) < (R : Int) := by omega
      clear hR hjl
      go_wp2_with fail
      go_end0
      obtain ⟨_, _, d1, d2, d3⟩ := unhide HB
      exact ⟨rfl, ⟨nf, d1, by simpa using d2⟩, d3⟩
    · have hRI : (0 : Int) < (R : Int) := by omega
      obtain ⟨y1, y2, ⟨blk, z1, z2, z3, z4, z5', z6⟩, y4, y5⟩ := unhide HB
      obtain ⟨r, hr⟩ : ∃ r, l.drop j = r := ⟨_, rfl⟩
      have HRL : Hid (r.length = R) := hide (by rw [← hr, List.length_drop]; exact hR)
      have HR8 : Hid (U8 r) := hide (fun y hy => unhide H8 y (List.mem_of_mem_drop (hr ▸ hy)))
      rw [hr] at y1
      rcases y1 with ⟨hy1, hy2⟩ | ⟨ad, cap, hy1, hy2, hy3, hy4⟩
      · exfalso
        have := unhide HRL
        rw [hy2] at this
        simp at this
        omega
      have hy1' : a = some ad ∧ c = cap := by
        injection hy1 with h1 h2 h3
        exact ⟨h1, h3⟩
      obtain ⟨rfl, rfl⟩ := hy1'
      have HRC : Hid (R ≤ c) := hide (by rw [← unhide HRL]; exact hy2)
      have HCM : Hid (c ≤ maxLen) := hide hy3
      have HBY : Hid (∀ (i y : Nat), r[i]? = some y → wr.cell? (ad.add i) = some (.int .u8 (y : Int))) := hide hy4
      have HOF : Hid (¬ ad.block = g) := hide (fun e => y2 ad.block rfl e)
      obtain ⟨A, hA⟩ : ∃ A, all ++ l.take j = A := ⟨_, rfl⟩
      rw [hA] at z3 z4 z5' z6 y4
      obtain ⟨Hs, hHs⟩ : ∃ H, hsK h0 A nf = H := ⟨_, rfl⟩
      obtain ⟨hd, hhd⟩ : ∃ x, A.length - 64 * nf = x := ⟨_, rfl⟩
      obtain ⟨fd, hfd⟩ : ∃ x, 64 * nf = x := ⟨_, rfl⟩
      have HAL : Hid (A.length ≤ 1000000000) := hide (by rw [← hA, List.length_append, List.length_take]; omega)
      rw [hHs, hhd, hfd] at z6
      rw [hhd, hfd] at z5'
      have HHs : Hid (Hs.length = 8) := hide (by rw [← hHs]; exact hsK_len _ _ hh _)
      have HH32 : Hid (W32 Hs) := hide (hHs ▸ hsK_32 A h32 nf (by have := unhide HAL; omega))
      have HBL : Hid (blk.length = 64) := hide z1
      have HB8 : Hid (U8 blk) := hide z2
      rw [hfd] at z3 z4
      have HZ3 := hide z3
      have HZ4 := hide z4
      have HZ5 := hide z5'
      have HhHs := hide hHs
      rw [hfd] at hhd
      have Hhd := hide hhd
      have Hfd := hide hfd
      have HA := hide hA
      have HRR := hide hR
      have Hrr := hide hr
      have HO := hide y5
      have HR6 := hide z6
      have HT1 := hide ((unhide HT).only y5 (fun k hk => by omega))
      have q := dcells_get (held := hd) (folded := fd) (made := true) (unhide HHs) z1
      have k1 := (z6.cell 72).trans q.1
      have hd64 : hd ≤ 64 := by omega
      clear z1 z2 z3 z4 z5' z6 hHs hhd hfd hA hR hr y2 y4 y5 q hy1 hy2 hy3 hy4 HB HT HD HC HV HF H8
      by_cases h64 : hd = 64
      · have hde : (hd : Int) = 64 := by omega
        have HDF := hide (dfold_any g hd fd false true Hs blk wr (unhide HT1) hg2 (unhide HHs) (unhide HH32) (unhide HBL) (unhide HB8) hd64 (by have := unhide HAL; have := unhide HZ3; omega) (unhide HR6))
        go_wp2_with fail
        refine Calls.mono (unhide HDF) ?_
        rintro e w2 ⟨rfl, r2, o2⟩
        have hfe := DgAt.fold (h0 := h0) (A := A) (blk := blk) (nf := nf) (unhide HBL) (by have h1 := unhide Hhd; have h2 := unhide Hfd; have h3 := unhide HZ3; omega) (by have h2 := unhide Hfd; have h3 := unhide HZ5; rw [h64] at h3; rw [h2]; exact h3)
        have h2' := unhide Hfd
        rw [h2', unhide HhHs, ← h64] at hfe
        rw [hfe] at r2
        obtain ⟨Hs2, hHs2⟩ : ∃ H, hsK h0 A (nf + 1) = H := ⟨_, rfl⟩
        obtain ⟨fd2, hfd2⟩ : ∃ x, fd + hd = x := ⟨_, rfl⟩
        rw [hHs2, hfd2] at r2
        have HRW := hide r2
        have HBW : Hid (∀ (i y : Nat), r[i]? = some y → w2.cell? (ad.add i) = some (.int .u8 (y : Int))) := hide (fun i y hy => o2.cell (by rw [add_block]; exact unhide HOF) (unhide HBY i y hy))
        have HOW := hide ((unhide HO).trans o2)
        have HHs2 : Hid (Hs2.length = 8) := hide (by rw [← hHs2]; exact hsK_len _ _ hh _)
        have Hfd2 : Hid (64 * (nf + 1) = fd2) := hide (by omega)
        have HZ32 : Hid (fd2 ≤ A.length) := hide (by have h1 := unhide Hhd; have h3 := unhide HZ3; omega)
        have Hhd2 : Hid (A.length - fd2 = 0) := hide (by have h1 := unhide Hhd; have h3 := unhide HZ3; omega)
        have HZ52 : Hid (blk.take 0 = A.drop fd2) := hide (by rw [List.take_zero, List.drop_of_length_le (by have := unhide Hhd2; omega)])
        have HhHs2 := hide hHs2
        clear r2 o2 hfe h2' hHs2 hfd2 k1 hde HDF Hhd HZ3 HZ4 HZ5 HhHs Hfd HHs HH32 HR6 HO HBY h64 hd64
        clear hd
        clear fd
        obtain ⟨hd, hhd0⟩ : ∃ x : Nat, x = 0 := ⟨_, rfl⟩
        rw [← hhd0] at HRW Hhd2 HZ52
        have HHs := HHs2
        have Hfd := Hfd2
        have HZ3 := HZ32
        have Hhd := Hhd2
        have HZ5 := HZ52
        have HhHs := HhHs2
        clear HHs2 Hfd2 HZ32 Hhd2 HZ52 HhHs2
        obtain ⟨Hs, hHsx⟩ : ∃ H, H = Hs2 := ⟨_, rfl⟩
        rw [← hHsx] at HHs HhHs HRW
        obtain ⟨fd, hfdx⟩ : ∃ x, x = fd2 := ⟨_, rfl⟩
        rw [← hfdx] at Hfd HZ3 Hhd HZ5 HRW
        have h64 : ¬ hd = 64 := by omega
        have hd64 : hd ≤ 64 := by omega
        clear hhd0 hHsx hfdx
        go_wp2_with fail
        have q := dcells_get (held := hd) (folded := fd) (made := true) (unhide HHs) (unhide HBL)
        have k2 := ((unhide HRW).drew.cell 72).trans q.1
        clear q
        obtain ⟨n, hn⟩ : ∃ n, n = Nat.min R (64 - hd) := ⟨_, rfl⟩
        have hn1 : 1 ≤ n ∧ n ≤ R ∧ n ≤ 64 - hd := by rw [hn]; simp only [Nat.min_def]; split <;> omega
        have HCL : Hid ((bv (r.take n)).length = n) := hide (by rw [bv_len, List.length_take, unhide HRL]; omega)
        have hcopy : ∀ ty, (Builtin.copy_ #[30, 30] ty #[.slice (some ⟨g, 8 + hd, none⟩) (64 - hd) (64 - hd), .slice (some ad) R c]).run Tryd.prog w2.drew = .ok (goInt (bv (r.take n)).length) (w2.drew.setCells g (8 + hd) (bv (r.take n))) := fun ty =>
          run_copy_cells w2.drew 30 30 ty 5 g (8 + hd) (64 - hd) (64 - hd) ad R c (bv (r.take n)) Tryd.underlying30 z5 (by rw [unhide HCL, hn])
            (fun i u hi => by
              rw [bv, List.getElem?_map] at hi
              obtain ⟨y, hy, rfl⟩ := Option.map_eq_some_iff.1 hi
              have hy' : r[i]? = some y := by
                rw [List.getElem?_take] at hy
                split at hy
                · exact hy
                · cases hy
              exact unhide HBW i y hy')
            (fun i hi => by rw [unhide HCL] at hi; rw [(unhide HRW).drew.cell, List.getElem?_eq_getElem (by rw [dcells_len _ _ _ _ _ (unhide HHs) (unhide HBL)]; omega)]; rfl)
            (fun i hi => (unhide HRW).drew.frozen _) (fun u hu => one_bv' hu)
        obtain ⟨e1, e2⟩ := RowAt.setCells (bv (r.take n)) (8 + hd) _ _ (unhide HRW).drew (by rw [unhide HCL, dcells_len _ _ _ _ _ (unhide HHs) (unhide HBL)]; omega)
        rw [dcells_put _ _ _ _ _ _ _ (unhide HHs) (by have := unhide HCL; rw [bv_len] at this; rw [this, unhide HBL]; omega)] at e1
        rw [unhide HCL] at hcopy
        have HE1 := hide e1
        have HE2 := hide e2
        clear e1 e2 hn
        generalize w2.drew.setCells g (8 + hd) (bv (r.take n)) = w3 at *
        have HPL : Hid ((putL blk hd (r.take n)).length = 64) := hide (by rw [putL_len _ _ _ (by have := unhide HCL; rw [bv_len] at this; rw [this, unhide HBL]; omega), unhide HBL])
        have q3 := dcells_get (held := hd) (folded := fd) (made := true) (unhide HHs) (unhide HPL)
        have k3 := ((unhide HE1).cell 72).trans q3.1
        have f3 := (unhide HE1).frozen 72
        clear q3
        have b1 : (hd : Int) < 64 := by omega
        have b2 : ¬ (64 : Int) < (hd : Int) := by omega
        have b3 : ¬ (hd : Int) < 0 := by omega
        have b4 : ¬ R < n := by omega
        have b5 : ¬ c < n := by have := unhide HRC; omega
        have b6 : n ≤ c := by have := unhide HRC; omega
        have b7 : n ≤ R := hn1.2.1
        have b8 : ¬ hd = 64 := by omega
        refine wp_region_tail 9 (by kernel_rfl) (by kernel_rfl) ?_
        simp only [List.take_succ_cons, List.take_zero, List.drop_succ_cons, List.drop_zero]
        repeat (first | (refine wpQuiet_slice rfl 105 5 _ _ rfl g 8 hd 64 rfl rfl Tryd.underlying105 z5 (by omega) ?_; simp only [Act.put, List.setIfInBounds_toArray, List.set_cons_succ, List.set_cons_zero]) | go_big_quiet_step (fail))
        refine wpQuiet_nil ?_
        have HE4 := hide ((unhide HE1).set 72 (.int .i64 ((hd : Int) + (n : Int))))
        have hcast : ((hd : Int) + (n : Int)) = ((hd + n : Nat) : Int) := by omega
        have HE5 : Hid (RowAt (w3.setCell ⟨g, 72, none⟩ (.int .i64 ((hd : Int) + (n : Int)))) g 107 (dcells Hs (putL blk hd (r.take n)) (hd + n) fd true)) := hide (by
          have e := dcells_set_held Hs (putL blk hd (r.take n)) hd (hd + n) fd true (unhide HHs) (unhide HPL)
          rw [← e, ← hcast]; exact unhide HE4)
        have HO4 : Hid (Only (· = g) w2 (w3.setCell ⟨g, 72, none⟩ (.int .i64 ((hd : Int) + (n : Int))))) := hide (((Only.drew (Only.refl (· = g) w2)).trans (unhide HE2)).set g 72 _ rfl)
        clear hcast HE4
        go_wp2_with fail
        generalize w3.setCell ⟨g, 72, none⟩ (.int .i64 ((hd : Int) + (n : Int))) = w4 at *
        have hRl := unhide HRL
        have hlj := unhide HRR
        have eA : all ++ l.take (j + n) = A ++ r.take n := by rw [List.take_add, ← List.append_assoc, unhide HA, unhide Hrr]
        have eD : l.drop (j + n) = r.drop n := by rw [← unhide Hrr, List.drop_drop]
        have dg := DgAt.step (unhide HBL) (unhide HB8) (unhide HR8) (unhide Hfd) (unhide Hhd) (unhide HZ3) (by omega) (by omega) (unhide HZ5) (unhide HhHs) (unhide HE5)
        refine ⟨⟨j + n, (nf + 1), by omega, ⟨_, _, by rw [show l.length - (j + n) = R - n by omega]⟩, ?_⟩, by simp only [lenOf]; omega⟩
        rw [eA, eD]
        refine ⟨Byt.tail (fun i y hy => (unhide HO4).cell (by rw [add_block]; exact unhide HOF) (unhide HBW i y hy)) hRl (unhide HRC) (unhide HCM) b7, ?_, dg, .inr ?_, Only.trans (unhide HOW) (unhide HO4)⟩
        · intro k hk e
          have : ad.block = k := by
            split at hk
            · simpa [Value.ownBlock] using hk
            · simpa [Value.ownBlock, add_block] using hk
          exact unhide HOF (this.trans e)
        · rw [List.length_append, List.length_take]
          have h3 := unhide HZ3
          have h4 := unhide Hfd
          omega
      · have hde : ¬ (hd : Int) = 64 := by omega
        go_wp2_with fail
        have HRW := HR6
        have HBW := HBY
        have HOW := HO
        clear k1 hde
        have q := dcells_get (held := hd) (folded := fd) (made := true) (unhide HHs) (unhide HBL)
        have k2 := ((unhide HRW).drew.cell 72).trans q.1
        clear q
        obtain ⟨n, hn⟩ : ∃ n, n = Nat.min R (64 - hd) := ⟨_, rfl⟩
        have hn1 : 1 ≤ n ∧ n ≤ R ∧ n ≤ 64 - hd := by rw [hn]; simp only [Nat.min_def]; split <;> omega
        have HCL : Hid ((bv (r.take n)).length = n) := hide (by rw [bv_len, List.length_take, unhide HRL]; omega)
        have hcopy : ∀ ty, (Builtin.copy_ #[30, 30] ty #[.slice (some ⟨g, 8 + hd, none⟩) (64 - hd) (64 - hd), .slice (some ad) R c]).run Tryd.prog wr.drew = .ok (goInt (bv (r.take n)).length) (wr.drew.setCells g (8 + hd) (bv (r.take n))) := fun ty =>
          run_copy_cells wr.drew 30 30 ty 5 g (8 + hd) (64 - hd) (64 - hd) ad R c (bv (r.take n)) Tryd.underlying30 z5 (by rw [unhide HCL, hn])
            (fun i u hi => by
              rw [bv, List.getElem?_map] at hi
              obtain ⟨y, hy, rfl⟩ := Option.map_eq_some_iff.1 hi
              have hy' : r[i]? = some y := by
                rw [List.getElem?_take] at hy
                split at hy
                · exact hy
                · cases hy
              exact unhide HBW i y hy')
            (fun i hi => by rw [unhide HCL] at hi; rw [(unhide HRW).drew.cell, List.getElem?_eq_getElem (by rw [dcells_len _ _ _ _ _ (unhide HHs) (unhide HBL)]; omega)]; rfl)
            (fun i hi => (unhide HRW).drew.frozen _) (fun u hu => one_bv' hu)
        obtain ⟨e1, e2⟩ := RowAt.setCells (bv (r.take n)) (8 + hd) _ _ (unhide HRW).drew (by rw [unhide HCL, dcells_len _ _ _ _ _ (unhide HHs) (unhide HBL)]; omega)
        rw [dcells_put _ _ _ _ _ _ _ (unhide HHs) (by have := unhide HCL; rw [bv_len] at this; rw [this, unhide HBL]; omega)] at e1
        rw [unhide HCL] at hcopy
        have HE1 := hide e1
        have HE2 := hide e2
        clear e1 e2 hn
        generalize wr.drew.setCells g (8 + hd) (bv (r.take n)) = w3 at *
        have HPL : Hid ((putL blk hd (r.take n)).length = 64) := hide (by rw [putL_len _ _ _ (by have := unhide HCL; rw [bv_len] at this; rw [this, unhide HBL]; omega), unhide HBL])
        have q3 := dcells_get (held := hd) (folded := fd) (made := true) (unhide HHs) (unhide HPL)
        have k3 := ((unhide HE1).cell 72).trans q3.1
        have f3 := (unhide HE1).frozen 72
        clear q3
        have b1 : (hd : Int) < 64 := by omega
        have b2 : ¬ (64 : Int) < (hd : Int) := by omega
        have b3 : ¬ (hd : Int) < 0 := by omega
        have b4 : ¬ R < n := by omega
        have b5 : ¬ c < n := by have := unhide HRC; omega
        have b6 : n ≤ c := by have := unhide HRC; omega
        have b7 : n ≤ R := hn1.2.1
        have b8 : ¬ hd = 64 := by omega
        refine wp_region_tail 9 (by kernel_rfl) (by kernel_rfl) ?_
        simp only [List.take_succ_cons, List.take_zero, List.drop_succ_cons, List.drop_zero]
        repeat (first | (refine wpQuiet_slice rfl 105 5 _ _ rfl g 8 hd 64 rfl rfl Tryd.underlying105 z5 (by omega) ?_; simp only [Act.put, List.setIfInBounds_toArray, List.set_cons_succ, List.set_cons_zero]) | go_big_quiet_step (fail))
        refine wpQuiet_nil ?_
        have HE4 := hide ((unhide HE1).set 72 (.int .i64 ((hd : Int) + (n : Int))))
        have hcast : ((hd : Int) + (n : Int)) = ((hd + n : Nat) : Int) := by omega
        have HE5 : Hid (RowAt (w3.setCell ⟨g, 72, none⟩ (.int .i64 ((hd : Int) + (n : Int)))) g 107 (dcells Hs (putL blk hd (r.take n)) (hd + n) fd true)) := hide (by
          have e := dcells_set_held Hs (putL blk hd (r.take n)) hd (hd + n) fd true (unhide HHs) (unhide HPL)
          rw [← e, ← hcast]; exact unhide HE4)
        have HO4 : Hid (Only (· = g) wr (w3.setCell ⟨g, 72, none⟩ (.int .i64 ((hd : Int) + (n : Int))))) := hide (((Only.drew (Only.refl (· = g) wr)).trans (unhide HE2)).set g 72 _ rfl)
        clear hcast HE4
        go_wp2_with fail
        generalize w3.setCell ⟨g, 72, none⟩ (.int .i64 ((hd : Int) + (n : Int))) = w4 at *
        have hRl := unhide HRL
        have hlj := unhide HRR
        have eA : all ++ l.take (j + n) = A ++ r.take n := by rw [List.take_add, ← List.append_assoc, unhide HA, unhide Hrr]
        have eD : l.drop (j + n) = r.drop n := by rw [← unhide Hrr, List.drop_drop]
        have dg := DgAt.step (unhide HBL) (unhide HB8) (unhide HR8) (unhide Hfd) (unhide Hhd) (unhide HZ3) (by omega) (by omega) (unhide HZ5) (unhide HhHs) (unhide HE5)
        refine ⟨⟨j + n, nf, by omega, ⟨_, _, by rw [show l.length - (j + n) = R - n by omega]⟩, ?_⟩, by simp only [lenOf]; omega⟩
        rw [eA, eD]
        refine ⟨Byt.tail (fun i y hy => (unhide HO4).cell (by rw [add_block]; exact unhide HOF) (unhide HBW i y hy)) hRl (unhide HRC) (unhide HCM) b7, ?_, dg, .inr ?_, Only.trans (unhide HOW) (unhide HO4)⟩
        · intro k hk e
          have : ad.block = k := by
            split at hk
            · simpa [Value.ownBlock] using hk
            · simpa [Value.ownBlock, add_block] using hk
          exact unhide HOF (this.trans e)
        · rw [List.length_append, List.length_take]
          have h3 := unhide HZ3
          have h4 := unhide Hfd
          omega
end Go.Proofs.YtbnfilhilgjnfaaDoor
