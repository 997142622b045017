/- A message as bytes: lists, and texts as they are put. -/
import Derived.Test.YtbnfilhilgjnfaaDoorGChk
import Derived.Test.YtbnfilhilgjnfaaDoorFAl5
import Derived.Lib.ConvBytes
import Derived.Lib.DecodeN
namespace Go.Proofs.YtbnfilhilgjnfaaDoor
set_option linter.unusedVariables false
set_option linter.unusedSimpArgs false
open Go.ChangeShapes Go.WideShapes Go.ChangeAt Go.RowKit Go.Joins

def putB (l d : List Nat) : List Nat := l ++ num8 d.length ++ d
theorem putB_len (l d : List Nat) : (putB l d).length = l.length + 8 + d.length := by simp [putB, num8_len]; omega
theorem strCells_bv (x : ByteArray) : Lib.strCells x = bv (x.data.toList.map (·.toNat)) := by
  simp [Lib.strCells, bv]

def txt (x : ByteArray) : List Nat := x.data.toList.map (·.toNat)
theorem txt_len (x : ByteArray) : (txt x).length = x.size := by simp [txt]

set_option maxHeartbeats 1000000 in
theorem puttext_any (v : Value) (l : List Nat) (x : ByteArray) (w : World) (hv : Byt w v l) (hl : l.length ≤ 100000000) (hx : x.size ≤ 100000000) :
    Calls Tryd.prog 33 #[v, .string x] w fun e w' => ∃ v', e = .returned v' ∧ w'.ownsRow w.heap.size 5 1 v' (putB l (txt x)).length (bv (putB l (txt x))) ∧ Below w.heap.size w w' := by
  obtain ⟨i0, hi, hz0, hz1, hz2⟩ := info_parts info5
  go_enter Tryd.func33, Tryd.ntmps33
  go_wp2_with fail
  refine (roomy_any v l (8 + x.size) _ hv (by omega) (by omega)).mono ?_
  rintro e w1 ⟨v1, rfl, ho1, hb1⟩
  go_wp2_with fail
  refine (appnum_any w.heap.size v1 l (x.size : Int) _ ho1 hb1.size (by omega) (by omega) (by omega)).mono ?_
  rintro e w2 ⟨v2, rfl, ho2, hb2⟩
  rw [Int.toNat_natCast] at ho2
  have hb12 := hb1.trans hb2
  go_wp2_with (at_builtin; refine Lib.wpList_append_own_string _ rfl _ _ 30 9 rfl w.heap.size 5 i0 Tryd.underlying30 Tryd.underlying9 hi hz0 hz1 hz2 _ _ _ rfl ho2 x rfl ?c1 ?c2 ?c3 ?_)
  case c1 => rw [List.length_append, num8_len]; unfold maxLen; omega
  case c2 => rw [List.length_append, num8_len]; omega
  case c3 => exact hb12.size
  intro v' w3 hown' hgrow' _
  go_wp2
  go_ret
  refine ⟨_, rfl, ?_, hb12.grown hgrow' hb12.size (fun k hk => (ho2.lt k hk).1)⟩
  exact own_cast hown' (by simp only [putB, List.length_append, txt_len]) (by rw [putB, bv_append (l ++ _), txt_len, strCells_bv]; rfl)

theorem wp_append_src {P : Program} (w : World) {o : Oper} {a : Act} {K : Act → World → Prop} {Q : Exit → Act → World → Prop} (s x : Operand) (t : TypeId)
    (ho : o.op = .call { callee := .builtin .append, args := #[s, x], argTypes := #[t, t] })
    (base : Nat) (e : TypeId) (i : TypeInfo) (z : Value) (size bytes : Nat) (ht : P.underlying t = some (.slice e)) (hi : P.info? e = some i) (hz : i.zero = some z)
    (hsize : i.size = size) (hby : i.bytes = bytes) (hzs : z.cells.size = size) (hsz : 0 < size)
    (v : Value) (n : Nat) (xs : List Value) (hs : a.eval s = v) (hown : w.ownsRow base e size v n xs)
    (ad : Option Addr) (m c : Nat) (news : List Value) (hx : a.eval x = .slice ad m c) (hl : news.length = m * size) (hnone : ad = none → m = 0) (hnews : ∀ b, ad = some b → ∀ j u, news[j]? = some u → w.cell? (b.add j) = some u) (h1 : ∀ u ∈ news, u.oneCell' = true)
    (h63 : n + m ≤ maxLen) (hbytes : (n + m) * bytes ≤ 140737488355328) (hbase : base ≤ w.heap.size)
    (h : ∀ ad' cap w', w'.ownsRow base e size (.slice ad' (n + m) cap) (n + m) (xs ++ news) → w.grownBy w' v.ownBlock → (Value.ownBlock (.slice ad' (n + m) cap) = v.ownBlock ∨ Value.ownBlock (.slice ad' (n + m) cap) = some w.heap.size) → K (a.put o.dst (.slice ad' (n + m) cap)) w') :
    o.wp P a w K Q := by
  obtain ⟨ad', cap, w', hr, h2, h3, h5⟩ : ∃ ad' cap w', (Builtin.append_ #[t, t] o.type #[v, .slice ad m c]).run P w = .ok (.slice ad' (n + m) cap) w' ∧ w'.ownsRow base e size (.slice ad' (n + m) cap) (n + m) (xs ++ news) ∧ w.grownBy w' v.ownBlock ∧ (Value.ownBlock (.slice ad' (n + m) cap) = v.ownBlock ∨ Value.ownBlock (.slice ad' (n + m) cap) = some w.heap.size) := by
    cases ad with
    | none =>
      have hm := hnone rfl
      subst hm
      have hn0 : news = [] := List.eq_nil_of_length_eq_zero (by simpa using hl)
      subst hn0
      obtain ⟨b, cap, hv, hle⟩ : ∃ b cap, v = .slice b n cap ∧ n ≤ cap := by
        rcases hown.2 with ⟨rfl, rfl⟩ | ⟨g, cap, cur, rfl, _, _, hle, _⟩
        · exact ⟨none, 0, rfl, Nat.le_refl _⟩
        · exact ⟨_, cap, rfl, hle⟩
      subst hv
      refine ⟨b, cap, w, run_append_none w t o.type e i ht hi b n cap c hle, ?_, ⟨rfl, rfl, rfl, Nat.le_refl _, fun _ _ _ => rfl⟩, .inl ?_⟩
      · simpa using hown
      · cases b <;> rfl
    | some b =>
      obtain ⟨v', w', hr, h2, h3, _, h5⟩ := run_append_own_at (P := P) w base t o.type e i z size bytes ht hi hz hsize hby hzs hsz v n xs hown b m c news hl (hnews b rfl) h1 h63 hbytes hbase
      obtain ⟨ad', cap, rfl⟩ : ∃ ad' cap, v' = .slice ad' (n + m) cap := by
        rcases h2.2 with ⟨rfl, h0⟩ | ⟨g, cap, cur, rfl, _⟩
        · exact ⟨none, 0, by rw [h0]⟩
        · exact ⟨_, cap, rfl⟩
      exact ⟨ad', cap, w', hr, h2, h3, h5⟩
  unfold Oper.wp execOp
  simp only [ho, resolve, invoke, builtin, Sem.run_bind, Sem.run_pure, Result.andThen_ok, List.map_toArray, List.map_cons, List.map_nil, hs, hx, hr]
  exact h ad' cap w' h2 h3 h5

theorem decodeN_le4 (n b0 b1 b2 b3 : Nat) : (Lib.decodeN n b0 b1 b2 b3).2 ≤ 4 := by
  unfold Lib.decodeN
  repeat' split
  all_goals first | exact Nat.le_refl _ | (show _ ≤ 4; decide) | simp
theorem count4 (s : ByteArray) : ∀ fuel pos, s.size - pos ≤ fuel → s.size - pos ≤ 4 * Lib.runeCountFrom s fuel pos
  | 0, pos, h => by omega
  | f + 1, pos, h => by
    by_cases hp : pos < s.size
    · have h1 := Lib.decode_width_pos s pos hp
      have h4 : (Utf8.decode s pos).2 ≤ 4 := by rw [Lib.decode_at]; exact decodeN_le4 _ _ _ _ _
      have ih := count4 s f (pos + (Utf8.decode s pos).2) (by omega)
      unfold Lib.runeCountFrom
      rw [if_pos hp]
      omega
    · omega
theorem size_le4 (s : ByteArray) : s.size ≤ 4 * Lib.runeCount s := by
  have := count4 s s.size 0 (by omega)
  exact this
theorem fits_size {p : Ed.Pt} (h : Ed.fitsB p = true) : (p.text.size : Int) ≤ (if p.kind = 2 then 4 * p.n else 0) ∧ 1 ≤ p.n ∧ p.n ≤ 1099511627776 ∧ 1 ≤ p.kind ∧ p.kind ≤ 3 := by
  have hb := Ed.fits_bounds h
  unfold Ed.fitsB at h
  simp only [Bool.and_eq_true, Bool.or_eq_true, decide_eq_true_eq] at h
  obtain ⟨_, ⟨h1, h2⟩ | ⟨h1, h2, h3⟩⟩ := h
  · refine ⟨?_, hb.1, hb.2, by omega, by omega⟩
    rw [if_neg (by omega), h2]; simp
  · refine ⟨?_, hb.1, hb.2, by omega, by omega⟩
    rw [if_pos h1]
    have := size_le4 p.text
    omega
def sumS (l : List Ed.Pt) : Nat := (l.map (·.text.size)).sum
theorem size_fold_none (l : List Ed.Pt) : l.foldl Ed.sizeStep none = none := by
  induction l with
  | nil => rfl
  | cons p l ih => exact ih
theorem size_fits (l : List Ed.Pt) : ∀ st q, l.foldl Ed.sizeStep st = some q → ∀ p ∈ l, Ed.fitsB p = true := by
  induction l with
  | nil => intro st q h p hp; cases hp
  | cons p l ih =>
    intro st q h x hx
    rw [List.foldl_cons] at h
    have hp : Ed.fitsB p = true := by
      match st, h with
      | none, h => exact absurd (show l.foldl Ed.sizeStep none = some q from h) (by rw [size_fold_none]; simp)
      | some (f, t, k), h =>
        by_cases hf : Ed.fitsB p = true ∧ Ed.followsB p.kind k = true
        · exact hf.1
        · exact absurd h (by
            rw [show Ed.sizeStep (some (f, t, k)) p = none by unfold Ed.sizeStep; simp only; rw [if_neg hf], size_fold_none]; simp)
    rcases List.mem_cons.1 hx with rfl | hx
    · exact hp
    · exact ih _ q h x hx
theorem weight_fits (l : List Ed.Pt) (hl : ∀ p ∈ l, Ed.fitsB p = true) : ∀ a b : Int, ∃ a' b', l.foldl Ed.wStep (some (a, b)) = some (a', b') ∧ (sumS l : Int) + 4 * a ≤ 4 * a' := by
  induction l with
  | nil => intro a b; exact ⟨a, b, rfl, by simp [sumS]⟩
  | cons p l ih =>
    intro a b
    have hp := hl p (List.mem_cons_self ..)
    obtain ⟨hz, h1, h2, _⟩ := fits_size hp
    obtain ⟨a', b', h, hs⟩ := ih (fun x hx => hl x (List.mem_cons_of_mem _ hx)) (if p.kind = 2 then a + p.n else a) (if p.kind = 3 then b + p.n else b)
    refine ⟨a', b', ?_, ?_⟩
    · rw [List.foldl_cons, ← h]
      unfold Ed.wStep
      simp only
      rw [if_pos hp]
    · have e : sumS (p :: l) = p.text.size + sumS l := by simp [sumS]
      rw [e]
      split at hs <;> rename_i hk
      · rw [if_pos hk] at hz; omega
      · rw [if_neg hk] at hz; omega
theorem light_facts {l : List Ed.Pt} (h : lightB l = true) : l.length ≤ 400 ∧ (∀ p ∈ l, Ed.fitsB p = true) ∧ sumS l ≤ 1024 := by
  unfold lightB at h
  simp only [Bool.and_eq_true, decide_eq_true_eq] at h
  obtain ⟨⟨h1, h2⟩, h3⟩ := h
  obtain ⟨q, hq⟩ := Option.isSome_iff_exists.1 h2
  have hf := size_fits l _ q hq
  obtain ⟨a', b', hw, hs⟩ := weight_fits l hf 0 0
  refine ⟨h1, hf, ?_⟩
  unfold putsP Ed.wL at h3
  rw [hw] at h3
  have h3' : a' ≤ 256 := h3
  omega
def prN (p : Ed.Pt) : Nat → Int
  | 0 => p.kind
  | _ => p.n
/-- a part as bytes -/
def prt (p : Ed.Pt) : List Nat := putB (putN [] (prN p) 2) (txt p.text)
theorem prt_len (p : Ed.Pt) : (prt p).length = 24 + p.text.size := by rw [prt, putB_len, putN_len, txt_len]; simp
def prts (l : List Ed.Pt) : List Nat := (l.map prt).flatten
theorem prts_len (l : List Ed.Pt) : (prts l).length = 24 * l.length + sumS l := by
  induction l with
  | nil => rfl
  | cons p l ih =>
    have e : prts (p :: l) = prt p ++ prts l := by simp [prts]
    have e2 : sumS (p :: l) = p.text.size + sumS l := by simp [sumS]
    rw [e, List.length_append, prt_len, ih, e2, List.length_cons]; omega
theorem prts_take {l : List Ed.Pt} {j : Nat} {p : Ed.Pt} (h : l[j]? = some p) : prts (l.take (j + 1)) = prts (l.take j) ++ prt p := by
  unfold prts
  rw [List.take_add_one, h]
  simp
theorem sumS_take (l : List Ed.Pt) (j : Nat) : sumS (l.take j) ≤ sumS l := by
  have : sumS l = sumS (l.take j) + sumS (l.drop j) := by
    unfold sumS
    rw [← List.sum_append, ← List.map_append, List.take_append_drop]
  omega
def msgN (k x0 x1 x2 x3 x4 x5 x6 : Int) (n : Nat) : Nat → Int
  | 0 => k
  | 1 => x0
  | 2 => x1
  | 3 => x2
  | 4 => x3
  | 5 => x4
  | 6 => x5
  | 7 => x6
  | _ => (n : Int)
/-- a message as bytes -/
def msgL (k x0 x1 x2 x3 x4 x5 x6 : Int) (l : List Ed.Pt) : List Nat := putN [] (msgN k x0 x1 x2 x3 x4 x5 x6 l.length) 9 ++ prts l
theorem msgL_len (k x0 x1 x2 x3 x4 x5 x6 : Int) (l : List Ed.Pt) : (msgL k x0 x1 x2 x3 x4 x5 x6 l).length = 72 + 24 * l.length + sumS l := by
  rw [msgL, List.length_append, putN_len, prts_len]; simp; omega
end Go.Proofs.YtbnfilhilgjnfaaDoor
