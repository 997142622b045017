/- Edits spread out: what is put ahead of each code point, and whether that is dropped; no model in it. -/
import Derived.Test.YtdnbhomjfgpcfaaDoorAtm
import Derived.Test.YtdnbhomjfgpcfaaDoorLA
import Derived.Lib.MapLaws
namespace Go.Proofs.YtdnbhomjfgpcfaaDoor
set_option linter.unusedVariables false
set_option linter.unusedSimpArgs false

/-- a code point's bytes, read and written, are what they were -/
theorem enc_at {s : ByteArray} {cs : List (List UInt8)} (h : Tx s cs) {n : Nat} {c : List UInt8} (hc : cs[n]? = some c) : Utf8.encode ((Utf8.decode s (placeOf cs n)).1 : Int) = ⟨c.toArray⟩ := by
  have hn : n < cs.length := (List.getElem?_eq_some_iff.1 hc).1
  have hd := drop_place h n
  have e : cs.drop n = c :: cs.drop (n + 1) := by
    rw [List.drop_eq_getElem_cons hn]
    rw [(List.getElem?_eq_some_iff.1 hc).2]
  have hcp := h.cps c (List.mem_of_getElem? hc)
  rw [← Lib.decodeL_drop, hd, e, List.flatten_cons, hcp.front]
  exact enc_cp hcp

/-- a text out of its code points -/
def txB (q : List (List UInt8)) : ByteArray := ⟨q.flatten.toArray⟩
theorem tx_txB {q : List (List UInt8)} (h : Cps q) : Tx (txB q) q := ⟨h, by simp [txB]⟩
theorem txB_of {s : ByteArray} {q : List (List UInt8)} (h : Tx s q) : txB q = s := by
  apply ByteArray.ext
  apply Array.toList_inj.1
  rw [h.eq]
  simp [txB]
theorem txB_app (q r : List (List UInt8)) : txB q ++ txB r = txB (q ++ r) := by
  apply ByteArray.ext
  apply Array.toList_inj.1
  simp [txB]
theorem txB_nil : txB [] = ByteArray.empty := rfl
theorem txB_size (q : List (List UInt8)) : (txB q).size = q.flatten.length := by simp [txB, ByteArray.size]
theorem txB_zero {q : List (List UInt8)} (h : Cps q) : (txB q).size = 0 ↔ q = [] := by
  rw [txB_size]
  constructor
  · intro e
    cases q with
    | nil => rfl
    | cons c q =>
      have := List.length_pos_iff.2 (h c (List.mem_cons_self ..)).ne
      simp only [List.flatten_cons, List.length_append] at e
      omega
  · rintro rfl; rfl

/-- what becomes of a code point -/
def stp (b : Bool) : At := if b then .d else .k
/-- a wide edit's single steps; those ahead of its end -/
def wAts : List (List (List UInt8)) → List Bool → List At
  | [], _ => []
  | q :: _, [] => q.map .p
  | q :: qs, b :: bs => q.map .p ++ stp b :: wAts qs bs
def wPre : List (List (List UInt8)) → List Bool → List At
  | q :: qs, b :: bs => q.map .p ++ stp b :: wPre qs bs
  | _, _ => []
theorem wAts_snoc : ∀ (P : List (List (List UInt8))) (D : List Bool) (q : List (List UInt8)), P.length = D.length → wAts (P ++ [q]) D = wPre P D ++ q.map .p
  | [], [], q, _ => by simp [wAts, wPre]
  | [], b :: D, q, h => by simp at h
  | r :: P, [], q, h => by simp at h
  | r :: P, b :: D, q, h => by
    simp only [List.cons_append, wAts, wPre, List.append_assoc, List.cons_append]
    rw [wAts_snoc P D q (by simpa using h)]
theorem wPre_snoc : ∀ (P : List (List (List UInt8))) (D : List Bool) (q : List (List UInt8)) (b : Bool), P.length = D.length → wPre (P ++ [q]) (D ++ [b]) = wPre P D ++ (q.map .p ++ [stp b])
  | [], [], q, b, _ => by simp [wPre]
  | [], _ :: D, q, _, h => by simp at h
  | r :: P, [], q, _, h => by simp at h
  | r :: P, b :: D, q, c, h => by
    simp only [List.cons_append, wPre, List.append_assoc, List.cons_append]
    rw [wPre_snoc P D q c (by simpa using h)]
theorem wAts_split : ∀ (i : Nat) (P : List (List (List UInt8))) (D : List Bool), i ≤ D.length → P.length = D.length + 1 → wAts P D = wPre (P.take i) (D.take i) ++ wAts (P.drop i) (D.drop i)
  | 0, P, D, _, _ => by simp [wPre]
  | i + 1, [], D, _, h => by simp at h
  | i + 1, q :: P, [], h, _ => by simp at h
  | i + 1, q :: P, b :: D, h, k => by
    simp only [List.take_succ_cons, List.drop_succ_cons, wAts, wPre, List.append_assoc, List.cons_append]
    rw [wAts_split i P D (by simpa using h) (by simpa using k)]
theorem wPre_take {P : List (List (List UInt8))} {D : List Bool} {i : Nat} {q : List (List UInt8)} {b : Bool} (hq : P[i]? = some q) (hb : D[i]? = some b) : wPre (P.take (i + 1)) (D.take (i + 1)) = wPre (P.take i) (D.take i) ++ (q.map .p ++ [stp b]) := by
  have h1 := (List.getElem?_eq_some_iff.1 hq).1
  have h2 := (List.getElem?_eq_some_iff.1 hb).1
  rw [List.take_add_one, List.take_add_one, hq, hb]
  exact wPre_snoc _ _ _ _ (by rw [List.length_take, List.length_take]; omega)
theorem wAts_drop {P : List (List (List UInt8))} {D : List Bool} {i : Nat} {q : List (List UInt8)} {b : Bool} (hq : P[i]? = some q) (hb : D[i]? = some b) : wAts (P.drop i) (D.drop i) = q.map .p ++ stp b :: wAts (P.drop (i + 1)) (D.drop (i + 1)) := by
  have h1 := (List.getElem?_eq_some_iff.1 hq)
  have h2 := (List.getElem?_eq_some_iff.1 hb)
  rw [List.drop_eq_getElem_cons h1.1, List.drop_eq_getElem_cons h2.1, h1.2, h2.2]
  rfl
theorem wAts_last {P : List (List (List UInt8))} {D : List Bool} {q : List (List UInt8)} (hl : P.length = D.length + 1) (hq : P[D.length]? = some q) : wAts (P.drop D.length) (D.drop D.length) = q.map .p := by
  have h1 := (List.getElem?_eq_some_iff.1 hq)
  rw [List.drop_eq_getElem_cons h1.1, h1.2, List.drop_of_length_le (Nat.le_refl _)]
  rfl
theorem stp_from (b : Bool) (x : List At) : At.fromN (stp b :: x) = At.fromN x + 1 := by cases b <;> rfl
theorem from_mapP (cs : List (List UInt8)) (x : List At) : At.fromN (cs.map .p ++ x) = At.fromN x := by
  induction cs with
  | nil => rfl
  | cons c cs ih => simp only [List.map_cons, List.cons_append, At.fromN, ih]
theorem wAts_from : ∀ (P : List (List (List UInt8))) (D : List Bool), P.length = D.length + 1 → At.fromN (wAts P D) = D.length
  | [], D, h => by simp at h
  | q :: P, [], h => by
    simp only [wAts]
    have := from_mapP q []
    simpa [At.fromN] using this
  | q :: P, b :: D, h => by
    simp only [wAts]
    rw [from_mapP, stp_from, wAts_from P D (by simpa using h)]
    rfl

/-- the loop of spreading out: at this place, so many steps are laid -/
structure SpI (n : Nat) (P : List (List (List UInt8))) (D : List Bool) (at_ : Nat) (x : List At) : Prop where
  pl : P.length = n + 1
  dl : D.length = n
  le : at_ ≤ n
  eq : ∃ q, P[at_]? = some q ∧ wPre (P.take at_) (D.take at_) ++ q.map .p = x
  emp : ∀ i, at_ < i → i ≤ n → P[i]? = some []
  cps : ∀ q ∈ P, Cps q
theorem SpI.start (n : Nat) : SpI n (List.replicate (n + 1) []) (List.replicate n false) 0 [] :=
  ⟨by simp, by simp, by omega, ⟨[], by simp, by simp [wPre]⟩, fun i _ h => by rw [List.getElem?_replicate, if_pos (by omega)], fun q hq => by rw [List.eq_of_mem_replicate hq]; exact Cps.nil⟩
theorem take_set_le {α : Type} (l : List α) (i : Nat) (v : α) : (l.set i v).take i = l.take i := by
  induction l generalizing i with
  | nil => simp
  | cons a l ih => cases i with
    | zero => simp
    | succ i => simp [ih]
theorem SpI.put {n : Nat} {P : List (List (List UInt8))} {D : List Bool} {at_ : Nat} {x : List At} (h : SpI n P D at_ x) {q cs : List (List UInt8)} (hq : P[at_]? = some q) (hc : Cps cs) : SpI n (P.set at_ (q ++ cs)) D at_ (x ++ cs.map .p) := by
  obtain ⟨q', h1, h2⟩ := h.eq
  obtain rfl : q = q' := by rw [hq] at h1; exact Option.some.inj h1
  have hlt := (List.getElem?_eq_some_iff.1 hq).1
  refine ⟨by rw [List.length_set]; exact h.pl, h.dl, h.le, ⟨q ++ cs, by simp [hlt], ?_⟩, fun i h3 h4 => ?_, fun r hr => ?_⟩
  · rw [take_set_le, List.map_append, ← List.append_assoc, h2]
  · rw [List.getElem?_set_ne (by omega)]; exact h.emp i h3 h4
  · rcases List.mem_or_eq_of_mem_set hr with hr | rfl
    · exact h.cps r hr
    · exact (h.cps q (List.mem_of_getElem? hq)).append hc
theorem SpI.step {n : Nat} {P : List (List (List UInt8))} {D : List Bool} {at_ : Nat} {x : List At} (h : SpI n P D at_ x) (ha : at_ < n) (b : Bool) : SpI n P (D.set at_ b) (at_ + 1) (x ++ [stp b]) := by
  obtain ⟨q, h1, h2⟩ := h.eq
  refine ⟨h.pl, by rw [List.length_set]; exact h.dl, by omega, ⟨[], h.emp _ (by omega) (by omega), ?_⟩, fun i h3 h4 => h.emp i (by omega) h4, h.cps⟩
  rw [wPre_take (b := b) h1 (by simp [h.dl, ha]), take_set_le, ← h2]
  simp
theorem SpI.done {n : Nat} {P : List (List (List UInt8))} {D : List Bool} {x : List At} (h : SpI n P D n x) : wAts P D = x := by
  obtain ⟨q, h1, h2⟩ := h.eq
  rw [wAts_split n P D (by rw [h.dl]; exact Nat.le_refl _) (by rw [h.pl, h.dl])]
  have := wAts_last (P := P) (D := D) (by rw [h.pl, h.dl]) (by rw [h.dl]; exact h1)
  rw [h.dl] at this
  rw [this, h2]
/-- the one that a code point makes, or none -/
def kp {α : Type} (b : Bool) (c : α) : List α := if b then [] else [c]
theorem appW_map (q : List (List UInt8)) (x : List At) (s : List (List UInt8)) : At.app (q.map .p ++ x) s = q ++ At.app x s := by
  induction q with
  | nil => rfl
  | cons c q ih => simp only [List.map_cons, List.cons_append, At.app, ih]
theorem appW_step (q : List (List UInt8)) (b : Bool) (x : List At) (c : List UInt8) (s : List (List UInt8)) : At.app (q.map .p ++ stp b :: x) (c :: s) = q ++ (kp b c ++ At.app x s) := by
  rw [appW_map]
  cases b <;> simp [stp, kp, At.app]
theorem appW_end (q : List (List UInt8)) : At.app (q.map .p) [] = q := by
  have := appW_map q [] []
  simpa [At.app] using this
theorem curW_map (q : List (List UInt8)) (x : List At) (n : Nat) (f : Bool) : At.cur (q.map .p ++ x) n f = (if n = 0 ∧ f = false then 0 else q.length) + At.cur x n f := by
  induction q with
  | nil => simp
  | cons c q ih =>
    simp only [List.map_cons, List.cons_append, At.cur, ih, List.length_cons]
    split <;> omega
theorem curW_step (q : List (List UInt8)) (b : Bool) (x : List At) (n : Nat) (f : Bool) : At.cur (q.map .p ++ stp b :: x) (n + 1) f = q.length + (if b then 0 else 1) + At.cur x n f := by
  rw [curW_map]
  cases b <;> simp [stp, At.cur] <;> omega
theorem curW_stop (q : List (List UInt8)) (b : Bool) (x : List At) (f : Bool) : At.cur (q.map .p ++ stp b :: x) 0 f = if f then q.length else 0 := by
  rw [curW_map]
  cases b <;> cases f <;> simp [stp, At.cur]
theorem curW_end (q : List (List UInt8)) (f : Bool) : At.cur (q.map .p) 0 f = if f then q.length else 0 := by
  have := curW_map q [] 0 f
  rw [List.append_nil] at this
  rw [this]
  cases f <;> simp [At.cur]
theorem invW_map (q : List (List UInt8)) (x : List At) (s : List (List UInt8)) : At.inv (q.map .p ++ x) s = List.replicate q.length .d ++ At.inv x s := by
  induction q with
  | nil => rfl
  | cons c q ih => simp only [List.map_cons, List.cons_append, At.inv, ih, List.length_cons, List.replicate_succ]
theorem invW_step (b : Bool) (x : List At) (c : List UInt8) (s : List (List UInt8)) : At.inv (stp b :: x) (c :: s) = (if b then .p c else .k) :: At.inv x s := by
  cases b <;> simp [stp, At.inv]
theorem compW_map (q : List (List UInt8)) (x : List At) (y : List At) (s : At) (hs : s ≠ .d) : At.comp (s :: x) (q.map .p ++ y) = q.map .p ++ At.comp (s :: x) y := by
  induction q with
  | nil => rfl
  | cons c q ih =>
    cases s with
    | d => exact absurd rfl hs
    | k => simp only [List.map_cons, List.cons_append, At.comp, ih]
    | p e => simp only [List.map_cons, List.cons_append, At.comp, ih]
theorem compW_p (c : List UInt8) (x : List At) (q : List (List UInt8)) (b : Bool) (y : List At) : At.comp (.p c :: x) (q.map .p ++ stp b :: y) = (q ++ kp b c).map .p ++ At.comp x y := by
  rw [compW_map _ _ _ _ (by intro h; cases h)]
  cases b <;> simp [stp, kp, At.comp]
theorem compW_k (x : List At) (q : List (List UInt8)) (b : Bool) (y : List At) : At.comp (.k :: x) (q.map .p ++ stp b :: y) = q.map .p ++ stp b :: At.comp x y := by
  rw [compW_map _ _ _ _ (by intro h; cases h)]
  cases b <;> simp [stp, kp, At.comp]
/-- one edit as it is behind another one: the first, or the second -/
def mt (f : Bool) (u v : List At) : List At := if f then At.one u v else At.two v u
theorem oneW_l (q : List (List UInt8)) (x y : List At) : At.one (q.map .p ++ x) y = q.map .p ++ At.one x y := by
  induction q with
  | nil => rfl
  | cons c q ih => simp only [List.map_cons, List.cons_append, At.one, ih]
theorem oneW_r (r : List (List UInt8)) (x y : List At) (hx : x = [] ∨ ∃ b z, x = stp b :: z) : At.one x (r.map .p ++ y) = List.replicate r.length .k ++ At.one x y := by
  induction r with
  | nil => rfl
  | cons c r ih =>
    rcases hx with rfl | ⟨b, z, rfl⟩
    · simp only [List.map_cons, List.cons_append, At.one, List.length_cons, List.replicate_succ]; rw [ih]
    · cases b
      · simp only [stp, Bool.false_eq_true, ↓reduceIte, List.map_cons, List.cons_append, At.one, List.length_cons, List.replicate_succ] at *; rw [ih]
      · simp only [stp, ↓reduceIte, List.map_cons, List.cons_append, At.one, List.length_cons, List.replicate_succ] at *; rw [ih]
theorem twoW_l (q : List (List UInt8)) (x y : List At) : At.two (q.map .p ++ x) y = List.replicate q.length .k ++ At.two x y := by
  induction q with
  | nil => rfl
  | cons c q ih => simp only [List.map_cons, List.cons_append, At.two, ih, List.length_cons, List.replicate_succ]
theorem twoW_r (r : List (List UInt8)) (x y : List At) (hx : x = [] ∨ ∃ b z, x = stp b :: z) : At.two x (r.map .p ++ y) = r.map .p ++ At.two x y := by
  induction r with
  | nil => rfl
  | cons c r ih =>
    rcases hx with rfl | ⟨b, z, rfl⟩
    · simp only [List.map_cons, List.cons_append, At.two, List.length_cons, List.replicate_succ]; rw [ih]
    · cases b
      · simp only [stp, Bool.false_eq_true, ↓reduceIte, List.map_cons, List.cons_append, At.two, List.length_cons, List.replicate_succ] at *; rw [ih]
      · simp only [stp, ↓reduceIte, List.map_cons, List.cons_append, At.two, List.length_cons, List.replicate_succ] at *; rw [ih]
/-- what is put of the one, and what is kept of what the other puts -/
def mtP (f : Bool) (q r : List (List UInt8)) : List At := if f then q.map .p ++ List.replicate r.length .k else List.replicate r.length .k ++ q.map .p
theorem mt_step (f : Bool) (q r : List (List UInt8)) (b c : Bool) (x y : List At) : mt f (q.map .p ++ stp b :: x) (r.map .p ++ stp c :: y) = mtP f q r ++ (kp c (stp b) ++ mt f x y) := by
  cases f
  · simp only [mt, mtP, Bool.false_eq_true, ↓reduceIte]
    rw [twoW_l, twoW_r _ _ _ (.inr ⟨_, _, rfl⟩)]
    cases b <;> cases c <;> simp [stp, kp, At.two]
  · simp only [mt, mtP, ↓reduceIte]
    rw [oneW_l, oneW_r _ _ _ (.inr ⟨_, _, rfl⟩)]
    cases b <;> cases c <;> simp [stp, kp, At.one]
theorem mt_end (f : Bool) (q r : List (List UInt8)) : mt f (q.map .p) (r.map .p) = mtP f q r := by
  cases f
  · simp only [mt, mtP, Bool.false_eq_true, ↓reduceIte]
    have h1 := twoW_l r [] (q.map .p)
    have h2 := twoW_r q [] [] (.inl rfl)
    rw [List.append_nil] at h1 h2
    rw [h1, h2]
    simp [At.two]
  · simp only [mt, mtP, ↓reduceIte]
    have h1 := oneW_l q [] (r.map .p)
    have h2 := oneW_r r [] [] (.inl rfl)
    rw [List.append_nil] at h1 h2
    rw [h1, h2]
    simp [At.one]
/-- a wide edit that grows at its end -/
theorem wAts_next {P : List (List (List UInt8))} {D : List Bool} (h : P.length = D.length + 1) (b : Bool) : wAts (P ++ [[]]) (D ++ [b]) = wAts P D ++ [stp b] := by
  rcases List.eq_nil_or_concat P with rfl | ⟨P', q, rfl⟩
  · simp at h
  · rw [List.concat_eq_append] at h ⊢
    have hl : P'.length = D.length := by simpa using h
    rw [wAts_snoc (P' ++ [q]) (D ++ [b]) [] (by simp [hl]), wPre_snoc _ _ _ _ hl, wAts_snoc _ _ _ hl]
    simp
theorem wAts_more {P : List (List (List UInt8))} {D : List Bool} {q r : List (List UInt8)} (h : P.length = D.length) : wAts (P ++ [q ++ r]) D = wAts (P ++ [q]) D ++ r.map .p := by
  rw [wAts_snoc _ _ _ h, wAts_snoc _ _ _ h, List.map_append, List.append_assoc]
end Go.Proofs.YtdnbhomjfgpcfaaDoor
