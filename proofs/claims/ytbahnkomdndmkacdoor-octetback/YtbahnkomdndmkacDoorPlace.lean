/- Where one reads. -/
import Derived.Test.YtbahnkomdndmkacDoorSums
import Derived.Deep.QuietTactic
import Derived.BigQuiet
namespace Go.Proofs.YtbahnkomdndmkacDoor
set_option linter.unusedVariables false
set_option linter.unusedSimpArgs false
open Go.ChangeShapes Go.WideShapes Go.ChangeAt Go.RowKit

/-- a place lies in block g from o on: these bytes, so far -/
def Pl (w : World) (g o : Nat) (v : Value) (k : Nat) : Prop :=
  (w.cell? ⟨g, o, none⟩ = some v ∧ w.cell? ⟨g, o + 1, none⟩ = some (.int .i64 (k : Int)) ∧ w.frozen? ⟨g, o, none⟩ = false ∧ w.frozen? ⟨g, o + 1, none⟩ = false) ∧ g < w.heap.size
/-- only the place's two cells, and blocks behind it, have turned -/
def Moved (w w' : World) (g o : Nat) : Prop :=
  Below g w w' ∧ (∀ j, j ≠ o → j ≠ o + 1 → w'.cell? ⟨g, j, none⟩ = w.cell? ⟨g, j, none⟩) ∧ (∀ j, w'.frozen? ⟨g, j, none⟩ = w.frozen? ⟨g, j, none⟩) ∧ ∀ j, j < w.heap.size → j ≠ g → w'.heap[j]? = w.heap[j]?
theorem Moved.refl (w : World) (g o : Nat) : Moved w w g o := ⟨Below.refl _ _, fun _ _ _ => rfl, fun _ => rfl, fun _ _ _ => rfl⟩
theorem Moved.trans {a b c : World} {g o : Nat} (h : Moved a b g o) (k : Moved b c g o) : Moved a c g o :=
  ⟨h.1.trans k.1, fun j h1 h2 => (k.2.1 j h1 h2).trans (h.2.1 j h1 h2), fun j => (k.2.2.1 j).trans (h.2.2.1 j), fun j h1 h2 => (k.2.2.2 j (Nat.lt_of_lt_of_le h1 h.1.size) h2).trans (h.2.2.2 j h1 h2)⟩
theorem Moved.below {w w' : World} {g o : Nat} (hg : g < w.heap.size) (h : Below w.heap.size w w') : Moved w w' g o :=
  ⟨h.mono (Nat.le_of_lt hg), fun j _ _ => h.cell (p := ⟨g, j, none⟩) hg, fun j => h.frozen (p := ⟨g, j, none⟩) hg, fun j h1 _ => h.block j h1⟩
theorem set_other {w : World} {g i j : Nat} (v : Value) (h : i ≠ j) : (w.setCell ⟨g, i, none⟩ v).cell? ⟨g, j, none⟩ = w.cell? ⟨g, j, none⟩ := by
  apply World.cell?_setCell_other
  intro e
  injection e with _ e2 _
  exact h e2
theorem set_same {w : World} {a : Addr} {u : Value} (v : Value) (h : w.cell? a = some u) : (w.setCell a v).cell? a = some v := by
  apply World.cell?_setCell_same
  exact h
theorem Moved.set1 (w : World) (g o : Nat) (v : Value) : Moved w (w.setCell ⟨g, o + 1, none⟩ v) g o :=
  ⟨(Below.refl g w).setCell (Nat.le_refl g) v, fun j h1 h2 => set_other v (fun e => h2 e.symm), fun j => by simp, fun j _ h2 => Below.heap_setCell _ _ _ _ h2⟩
theorem Moved.set0 (w : World) (g o : Nat) (v : Value) : Moved w (w.setCell ⟨g, o, none⟩ v) g o :=
  ⟨(Below.refl g w).setCell (Nat.le_refl g) v, fun j h1 h2 => set_other v (fun e => h1 e.symm), fun j => by simp, fun j _ h2 => Below.heap_setCell _ _ _ _ h2⟩
theorem Pl.below {w w' : World} {g o k : Nat} {v : Value} (h : Pl w g o v k) (hb : Below (g + 1) w w') : Pl w' g o v k := by
  obtain ⟨⟨h0, h1, h2, h3⟩, hs⟩ := h
  refine ⟨⟨cell_keep hb (Nat.lt_succ_self _) h0, cell_keep hb (Nat.lt_succ_self _) h1, ?_, ?_⟩, Nat.lt_of_lt_of_le hs hb.size⟩
  · rw [hb.frozen (p := ⟨g, o, none⟩) (Nat.lt_succ_self _)]; exact h2
  · rw [hb.frozen (p := ⟨g, o + 1, none⟩) (Nat.lt_succ_self _)]; exact h3
theorem Byt.low {w w1 : World} {g : Nat} {v : Value} {l : List Nat} (h : Byt w v l) (hb : Below g w w1) (hg : ∀ a n cap, v = .slice (some a) n cap → 0 < n → a.block < g) : Byt w1 v l := by
  rcases h with h | ⟨a, cap, hv, h1, h2, h3⟩
  · exact .inl h
  · refine .inr ⟨a, cap, hv, h1, h2, fun i y hy => ?_⟩
    have hpos : 0 < l.length := by
      cases l with
      | nil => simp at hy
      | cons x l => simp
    have := h3 i y hy
    refine cell_keep hb ?_ this
    have hlt := hg a _ cap hv hpos
    obtain ⟨b, off, s⟩ := a
    simp only [Addr.add]
    split <;> exact hlt

theorem Pl.put {w : World} {g o k : Nat} {v : Value} (h : Pl w g o v k) (v' : Value) (k' : Nat) :
    Pl ((w.setCell ⟨g, o, none⟩ v').setCell ⟨g, o + 1, none⟩ (.int .i64 (k' : Int))) g o v' k' ∧ Moved w ((w.setCell ⟨g, o, none⟩ v').setCell ⟨g, o + 1, none⟩ (.int .i64 (k' : Int))) g o := by
  obtain ⟨⟨p0, p1, p2, p3⟩, ps⟩ := h
  refine ⟨⟨⟨?_, ?_, ?_, ?_⟩, ?_⟩, (Moved.set0 _ g o _).trans (Moved.set1 _ g o _)⟩
  · rw [set_other _ (by omega)]; exact set_same _ p0
  · refine set_same (u := .int .i64 (k : Int)) _ ?_
    rw [set_other _ (by omega)]; exact p1
  · simpa using p2
  · simpa using p3
  · simpa using ps
/-- bytes that lie below a block -/
def Low (v : Value) (g : Nat) : Prop := ∀ a n cap, v = .slice (some a) n cap → 0 < n → a.block < g
theorem Low.mono {v : Value} {g g' : Nat} (h : Low v g) (hg : g ≤ g') : Low v g' := fun a n cap e hn => Nat.lt_of_lt_of_le (h a n cap e hn) hg

theorem take_byt {w w' : World} {a : Addr} {l : List Nat} {cap k m g n o : Nat} (h : ∀ (i y : Nat), l[i]? = some y → w.cell? (a.add i) = some (.int .u8 (y : Int))) (hn : l.length = n) (hk : k + m ≤ n) (hc : n ≤ cap) (hm : cap ≤ maxLen) (hg : 0 < n → a.block < g) (hb : Moved w w' g o) :
    Byt w' (.slice (some (a.add k)) m (cap - k)) ((l.drop k).take m) := by
  have hlen : ((l.drop k).take m).length = m := by rw [List.length_take, List.length_drop]; omega
  refine .inr ⟨a.add k, cap - k, by rw [hlen], by rw [hlen]; omega, by omega, fun i y hy => ?_⟩
  have hi : i < m := by
    by_cases hi : i < m
    · exact hi
    · rw [List.getElem?_eq_none (by rw [hlen]; omega)] at hy; cases hy
  rw [List.getElem?_take_of_lt hi, List.getElem?_drop] at hy
  rw [Deep.add_add]
  have := h _ y hy
  refine cell_keep hb.1 ?_ this
  have hlt := hg (by omega)
  obtain ⟨b, off, s⟩ := a
  simp only [Addr.add]
  split <;> exact hlt

set_option maxHeartbeats 400000 in
theorem left_any (g o : Nat) (a : Option Addr) (n cap k : Nat) (w : World) (hp : Pl w g o (.slice a n cap) k) (hk : k ≤ n) (hn : n ≤ maxLen) :
    Calls Tryd.prog 52 #[.pointer (some ⟨g, o, none⟩)] w fun e w' => e = .returned (.int .i64 ((n : Int) - (k : Int))) ∧ ∃ d, w' = w.drewN d := by
  unfold maxLen at hn
  have hF := hp.1
  go_enter Tryd.func52, Tryd.ntmps52
  go_wp2_with fail
  go_quiet (fail)
  go_wp2
  go_ret
  exact ⟨rfl, nq, rfl⟩

set_option maxHeartbeats 1000000 in
theorem take_short (g o : Nat) (a : Option Addr) (n cap k : Nat) (m : Int) (w : World) (hp : Pl w g o (.slice a n cap) k) (hk : k ≤ n) (hn : n ≤ maxLen) (hm : (n : Int) - (k : Int) < m) :
    Calls Tryd.prog 55 #[.pointer (some ⟨g, o, none⟩), .int .i64 m] w fun e w' => e = .returned (.tuple #[.slice none 0 0, .int .i64 2]) ∧ ∃ d, w' = w.drewN d := by
  go_enter Tryd.func55, Tryd.ntmps55
  go_wp2_with (go_at_call 52; refine (left_any g o a n cap k _ hp hk hn).mono ?_; rintro e w' ⟨rfl, d, rfl⟩)
  go_ret2
  exact ⟨rfl, d, rfl⟩

set_option maxHeartbeats 1000000 in
theorem take_any (g o : Nat) (v : Value) (l : List Nat) (k m : Nat) (w : World) (hv : Byt w v l) (hp : Pl w g o v k) (hg : Low v g) (hl : l.length ≤ 1000000000) (hk : k + m ≤ l.length) :
    Calls Tryd.prog 55 #[.pointer (some ⟨g, o, none⟩), .int .i64 (m : Int)] w fun e w' => ∃ v', e = .returned (.tuple #[v', .int .i64 0]) ∧ Byt w' v' ((l.drop k).take m) ∧ Pl w' g o v (k + m) ∧ Moved w w' g o ∧ (∀ G, Low v G → Low v' G) := by
  have hv0 := hv
  have hfin : ∀ d, Pl ((w.drewN d).setCell ⟨g, o + 1, none⟩ (.int .i64 ((k + m : Nat) : Int))) g o v (k + m) ∧ Moved w ((w.drewN d).setCell ⟨g, o + 1, none⟩ (.int .i64 ((k + m : Nat) : Int))) g o := by
    intro d
    have hp1 : Pl (w.drewN d) g o v k := hp.below (Joins.below_draws _ _ d)
    obtain ⟨⟨p0, p1, p2, p3⟩, ps⟩ := hp1
    refine ⟨⟨⟨?_, ?_, ?_, ?_⟩, ?_⟩, (Moved.below hp.2 (Joins.below_draws _ _ d)).trans (Moved.set1 _ g o _)⟩
    · rw [set_other _ (by omega)]; exact p0
    · exact set_same _ p1
    · simpa using p2
    · simpa using p3
    · simpa using ps
  have HF := hide hfin
  clear hfin
  rcases hv with ⟨rfl, rfl⟩ | ⟨a, cap, rfl, h1, h2, h3⟩
  · have hk0 : k = 0 := by simp at hk; omega
    have hm0 : m = 0 := by simp at hk; omega
    subst hk0 hm0
    have hF := hp.1
    go_enter Tryd.func55, Tryd.ntmps55
    go_wp2_with (go_at_call 52; refine (left_any g o none 0 0 0 _ hp (Nat.le_refl _) (Nat.zero_le _)).mono ?_; rintro e w' ⟨rfl, d, rfl⟩)
    go_quiet (fail)
    go_wp2
    go_ret2
    have := unhide HF (d + nq)
    refine ⟨_, rfl, .inl ⟨rfl, rfl⟩, ?_, ?_, fun G _ a n cap e => by cases e⟩
    · have q := this.1
      simpa [World.drewN, Nat.add_assoc] using q
    · have q := this.2
      simpa [World.drewN, Nat.add_assoc] using q
  · obtain ⟨n, hn⟩ : ∃ n, l.length = n := ⟨_, rfl⟩
    rw [hn] at h1 hl hk hp hg hv0 HF ⊢
    have HN := hide hn
    have HC := hide h3
    clear h3 hn
    have hF := hp.1
    have g1 : (0 : Int) ≤ (k : Int) := by omega
    have g2 : (k : Int) ≤ (k : Int) + (m : Int) := by omega
    have g3 : (k : Int) + (m : Int) ≤ (cap : Int) := by omega
    have g4 : (k : Int) + (m : Int) ≤ (n : Int) := by omega
    go_enter Tryd.func55, Tryd.ntmps55
    go_wp2_with (go_at_call 52; refine (left_any g o (some a) n cap k _ hp (by omega) (by unfold maxLen; omega)).mono ?_; rintro e w' ⟨rfl, d, rfl⟩)
    have e1 : ((k + m : Nat) : Int) = (k : Int) + (m : Int) := by omega
    have e2 : k + m - k = m := by omega
    by_cases hcap : cap = k
    · have hm0 : m = 0 := by omega
      subst hm0
      subst hcap
      go_quiet (fail)
      go_wp2
      go_ret2
      have hh := unhide HF (d + nq)
      refine ⟨_, rfl, ?_, ?_, ?_, ?_⟩
      · exact .inr ⟨a, 0, by simp, by simp, Nat.zero_le _, fun i y hy => by simp at hy⟩
      · have q := hh.1
        simpa [World.drewN, Nat.add_assoc] using q
      · have q := hh.2
        simpa [World.drewN, Nat.add_assoc] using q
      · intro G _ a' n' cap' e hpos
        injection e with _ e3 _
        omega
    · go_quiet (fail)
      go_wp2
      go_ret2
      have hh := unhide HF (d + nq)
      have hM : Moved w ((w.drewN (d + nq)).setCell ⟨g, o + 1, none⟩ (.int .i64 ((k : Int) + (m : Int)))) g o := by
        have q := hh.2
        rw [e1] at q
        exact q
      refine ⟨_, rfl, ?_, ?_, hM, ?_⟩
      · have q := take_byt (unhide HC) (unhide HN) hk h1 h2 (fun hp => hg a n cap rfl hp) hM
        rw [← e2] at q
        simpa using q
      · have q := hh.1
        rw [e1] at q
        simpa [World.drewN, Nat.add_assoc] using q
      · intro G hG a' n' cap' e hpos
        injection e with e3 e4 _
        injection e3 with e5
        subst e5
        have hlt := hG a n cap rfl (by omega)
        obtain ⟨b, off, s⟩ := a
        simp only [Addr.add]
        split <;> exact hlt

/-- the number that bytes are -/
def numOf (l : List Nat) : Nat := l.foldl (fun u x => u * 256 + x) 0
theorem numOf_take {l : List Nat} {k y : Nat} (h : l[k]? = some y) : numOf (l.take (k + 1)) = numOf (l.take k) * 256 + y := by
  have hk : k < l.length := by
    by_cases hk : k < l.length
    · exact hk
    · rw [List.getElem?_eq_none (by omega)] at h; cases h
  rw [List.take_succ_eq_append_getElem hk, numOf, List.foldl_append]
  rw [List.getElem?_eq_getElem hk] at h
  obtain rfl := Option.some.inj h
  rfl
theorem numOf_lt (l : List Nat) (h : ∀ y ∈ l, y < 256) : numOf l < 256 ^ l.length := by
  have : ∀ (l : List Nat) (c n : Nat), c < 256 ^ n → (∀ y ∈ l, y < 256) → l.foldl (fun u x => u * 256 + x) c < 256 ^ (n + l.length) := by
    intro l
    induction l with
    | nil => intro c n hc _; simpa using hc
    | cons x l ih =>
      intro c n hc hl
      have hx := hl x (List.mem_cons_self ..)
      have := ih (c * 256 + x) (n + 1) (by rw [Nat.pow_succ]; omega) (fun y hy => hl y (List.mem_cons_of_mem _ hy))
      rw [List.length_cons, show n + (l.length + 1) = n + 1 + l.length by omega]
      exact this
  have := this l 0 0 (by decide) h
  simpa [numOf] using this
theorem or_join (u x : Nat) (hu : u < 72057594037927936) (hx : x < 256) : bits .or .u64 ((u : Int) * 256) (x : Int) = ((u * 256 + x : Nat) : Int) := by
  have e : ((u : Int) * 256) = ((u * 256 : Nat) : Int) := by omega
  rw [e, u64_or_nat _ _ (by omega) (by omega)]
  congr 1
  have h : u * 256 = u <<< 8 := by rw [Nat.shiftLeft_eq]
  rw [h, ← Nat.shiftLeft_add_eq_or_of_lt (by omega)]

theorem Pl.fresh {w : World} {v : Value} {k : Nat} : Pl (w.alloc (.cells #[v, .int .i64 (k : Int)] 63)) w.heap.size 0 v k := by
  refine ⟨⟨?_, ?_, ?_, ?_⟩, ?_⟩
  all_goals (simp [go_sem]; done)

theorem byt_len {w : World} {a : Option Addr} {n cap : Nat} {l : List Nat} (h : Byt w (.slice a n cap) l) : l.length = n := by
  rcases h with ⟨e, rfl⟩ | ⟨a', cap', e, _⟩
  · injection e with _ e2 _; exact e2.symm
  · injection e with _ e2 _; exact e2.symm

set_option maxHeartbeats 2000000 in
theorem within_any (g o : Nat) (a : Option Addr) (n cap : Nat) (l : List Nat) (k : Nat) (lo hi : Int) (w : World) (hv : Byt w (.slice a n cap) l) (hp : Pl w g o (.slice a n cap) k) (hg : Low (.slice a n cap) g) (hl : n ≤ 1000000000) (hk : k + 8 ≤ n) (h256 : ∀ y ∈ l, y < 256)
    (u : Nat) (hu : numOf ((l.drop k).take 8) = u) (hin : lo ≤ (u : Int) ∧ (u : Int) ≤ hi) (hmax : u ≤ 9223372036854775807) :
    Calls Tryd.prog 47 #[.pointer (some ⟨g, o, none⟩), .int .i64 lo, .int .i64 hi] w fun e w' => e = .returned (.tuple #[.int .i64 (u : Int), .int .i64 0]) ∧ Pl w' g o (.slice a n cap) (k + 8) ∧ Moved w w' g o := by
  have hF := hp.1
  have hgz := hp.2
  have hq := Pl.fresh (w := w) (v := .slice a n cap) (k := k)
  have hb0 : Below w.heap.size w (w.alloc (.cells #[.slice a n cap, .int .i64 (k : Int)] 63)) := (Below.refl _ _).alloc (Nat.le_refl _) _
  have hv1 := hv.call hb0
  have hg1 : Low (.slice a n cap) w.heap.size := hg.mono (Nat.le_of_lt hgz)
  have hln := byt_len hv
  have HLN := hide hln
  have HU := hide hu
  have H256 := hide h256
  have hk' : k + 8 ≤ l.length := by rw [hln]; exact hk
  have hl' : l.length ≤ 1000000000 := by rw [hln]; exact hl
  clear hu h256 hln
  go_enter Tryd.func47, Tryd.ntmps47
  go_wp2_with fail
  refine (take_any w.heap.size 0 (.slice a n cap) l k 8 _ hv1 hq hg1 hl' hk').mono ?_
  rintro e w1 ⟨v1, rfl, hv2, hq1, hm1, hg2⟩
  obtain ⟨bs, hbs⟩ : ∃ bs, (l.drop k).take 8 = bs := ⟨_, rfl⟩
  have hbl : bs.length = 8 := by rw [← hbs, List.length_take, List.length_drop]; omega
  have hb256 : ∀ y ∈ bs, y < 256 := fun y hy => unhide H256 y (List.mem_of_mem_drop (List.mem_of_mem_take (by rw [hbs]; exact hy)))
  rw [hbs] at hv2 HU
  rcases hv2 with ⟨_, h0⟩ | ⟨a2, cap2, rfl, c1, c2, c3⟩
  · rw [h0] at hbl; cases hbl
  rw [hbl] at c1 ⊢
  obtain ⟨b2, off2, rfl⟩ := plain_of c3 (by rw [hbl]; decide)
  have hbelow : Below (w.heap.size) w w1 := hb0.trans hm1.1
  have hpw1 : Pl w1 g o (.slice a n cap) k := hp.below (hbelow.mono hgz)
  have HBS := hide hbs
  have HBL := hide hbl
  have HB256 := hide hb256
  have HC3 := hide c3
  clear hbs hbl hb256 c3 hv1 hg1
  have hQF := hq1.1
  have hPF := hpw1.1
  go_wp2_with fail
  go_loop [11, 26] (fun c i => ∃ j : Nat, j ≤ 8 ∧ i = .int .i64 j ∧ c = .int .u64 ((numOf (bs.take j) : Nat) : Int)) (fun _ i => 8 - (intOf i).toNat)
  case atStart => exact ⟨0, by omega, rfl, rfl⟩
  case round =>
    obtain ⟨j, hj, rfl, rfl⟩ := hrel
    have hlt0 := numOf_lt (bs.take j) (fun y hy => unhide HB256 y (List.mem_of_mem_take hy))
    rw [List.length_take, unhide HBL] at hlt0
    by_cases hlt : j < 8
    · have hlt1 : numOf (bs.take j) < 72057594037927936 := by
        have : 256 ^ min j 8 ≤ 256 ^ 7 := Nat.pow_le_pow_right (by decide) (by omega)
        have e : (256 : Nat) ^ 7 = 72057594037927936 := by decide
        omega
      obtain ⟨y, hy⟩ : ∃ y, bs[j]? = some y := ⟨_, List.getElem?_eq_getElem (by rw [unhide HBL]; exact hlt)⟩
      have hcell := unhide HC3 j y hy
      rw [add_plain] at hcell
      have hy256 := unhide HB256 y (List.mem_of_getElem? hy)
      have hnx := numOf_take hy
      clear hlt0
      generalize numOf (bs.take j) = c at *
      have hj1 := or_join c y hlt1 hy256
      have HNX := hide hnx
      clear hnx hy
      have g1 : (0 : Int) ≤ (j : Int) := by omega
      have g2 : (j : Int) < 8 := by omega
      go_wp2_with fail
      go_round
      case rel => exact ⟨j + 1, by omega, by go_num, by rw [unhide HNX]; go_num⟩
      case measure => simp [intOf]; omega
    · have hj8 : j = 8 := by omega
      subst hj8
      have e1 : bs.take 8 = bs := List.take_of_length_le (by rw [unhide HBL]; omega)
      rw [e1, unhide HU]
      clear hlt0 e1
      have t1 : decide ((9223372036854775807 : Int) < (u : Int)) = false := by simp; omega
      have t2 : decide ((u : Int) < lo) = false := by simp; omega
      have t3 : decide (hi < (u : Int)) = false := by simp; omega
      go_wp2_with fail
      go_ret2
      refine ⟨rfl, ?_, ?_⟩
      · have q := (Pl.put hpw1 (.slice a n cap) (k + 8)).1
        simpa using q
      · refine (Moved.below hgz hbelow).trans ?_
        have q := (Pl.put hpw1 (.slice a n cap) (k + 8)).2
        simpa using q
end Go.Proofs.YtbahnkomdndmkacDoor
