/- Swap: the places of a pattern by where it begins; all that is swapped. -/
import Derived.Test.YtdnbhomjfgpcfaaDoorLEd
import Derived.Test.YtdnbhomjfgpcfaaDoorLFi
import Derived.Test.YtdnbhomjfgpcfaaDoorAwk
namespace Go.Proofs.YtdnbhomjfgpcfaaDoor
set_option linter.unusedVariables false
set_option linter.unusedSimpArgs false
open Go.ChangeShapes Go.WideShapes Go.ChangeAt Go.RowKit Go.Joins Go.Deep

/-- the places that do not begin within one that was taken -/
def frees (m : Nat) : Nat → List Nat → List Nat
  | _, [] => []
  | A, a :: q => if A ≤ a then a :: frees m (a + m) q else frees m A q
/-- places of a pattern, by where it begins -/
def occI (P T : List Int) : List Nat := (List.range T.length).filter (fun i => P.isPrefixOf (T.drop i))
theorem suf_pre {P T : List Int} {i : Nat} (hi : i + P.length ≤ T.length) : P <:+ T.take (i + P.length) ↔ P <+: T.drop i := by
  have e : T.take (i + P.length) = T.take i ++ (T.drop i).take P.length := by
    rw [List.take_add]
  constructor
  · rintro ⟨x, hx⟩
    rw [e] at hx
    have hl : x.length = (T.take i).length := by
      have h2 := congrArg List.length hx
      rw [List.length_append, List.length_append, List.length_take, List.length_take, List.length_drop] at h2
      rw [List.length_take]
      omega
    have h3 := (List.append_inj hx hl).2
    rw [h3]
    exact List.take_prefix _ _
  · intro h
    obtain ⟨y, hy⟩ := h
    have h3 : (T.drop i).take P.length = P := by rw [← hy]; simp
    rw [e, h3]
    exact List.suffix_append _ _
theorem occ_range {P T : List Int} (hP : 0 < P.length) : ∀ n, n ≤ T.length → occ P T n = (List.range (n + 1 - P.length)).filter (fun i => P.isPrefixOf (T.drop i))
  | 0, _ => by
    rw [show 0 + 1 - P.length = 0 by omega]
    rfl
  | n + 1, hn => by
    have ih := occ_range (T := T) hP n (by omega)
    rw [occ, ih]
    by_cases h : n + 1 < P.length
    · rw [show n + 1 + 1 - P.length = 0 by omega, show n + 1 - P.length = 0 by omega]
      have h2 : ¬ (P.isSuffixOf (T.take (n + 1)) = true) := by
        rw [List.isSuffixOf_iff_suffix]
        intro hs
        have := hs.length_le
        rw [List.length_take] at this
        omega
      rw [if_neg h2]
      rfl
    · rw [show n + 1 + 1 - P.length = (n + 1 - P.length) + 1 by omega, List.range_succ, List.filter_append]
      congr 1
      have h3 : (n + 1 - P.length) + P.length = n + 1 := by omega
      have h4 := suf_pre (P := P) (T := T) (i := n + 1 - P.length) (by omega)
      rw [h3] at h4
      rw [List.filter_cons, List.filter_nil]
      by_cases h5 : P <+: T.drop (n + 1 - P.length)
      · rw [if_pos (by rw [List.isSuffixOf_iff_suffix]; exact h4.2 h5), if_pos (by rw [List.isPrefixOf_iff_prefix]; exact h5)]
      · rw [if_neg (by rw [List.isSuffixOf_iff_suffix]; exact fun h => h5 (h4.1 h)), if_neg (by rw [List.isPrefixOf_iff_prefix]; exact h5)]
theorem occ_occI {P T : List Int} (hP : 0 < P.length) : occ P T T.length = occI P T := by
  rw [occ_range hP _ (Nat.le_refl _), occI]
  by_cases h : T.length < P.length
  · rw [show T.length + 1 - P.length = 0 by omega, List.range_zero, List.filter_nil]
    symm
    rw [List.filter_eq_nil_iff]
    intro i hi
    rw [List.isPrefixOf_iff_prefix]
    intro hp
    have := hp.length_le
    rw [List.length_drop] at this
    omega
  · have e : T.length = (T.length + 1 - P.length) + (P.length - 1) := by omega
    conv => rhs; rw [e]
    rw [List.range_add, List.filter_append]
    have h2 : ((List.range (P.length - 1)).map (T.length + 1 - P.length + ·)).filter (fun i => P.isPrefixOf (T.drop i)) = [] := by
      rw [List.filter_eq_nil_iff]
      intro i hi
      rw [List.mem_map] at hi
      obtain ⟨j, hj, rfl⟩ := hi
      rw [List.isPrefixOf_iff_prefix]
      intro hp
      have := hp.length_le
      rw [List.length_drop] at this
      omega
    rw [h2, List.append_nil]
theorem occI_mem {P T : List Int} {i : Nat} : i ∈ occI P T ↔ i < T.length ∧ P <+: T.drop i := by
  rw [occI, List.mem_filter, List.mem_range, List.isPrefixOf_iff_prefix]
theorem occI_sorted (P T : List Int) : (occI P T).Pairwise (· < ·) := List.Pairwise.filter _ List.pairwise_lt_range
theorem occI_room {P T : List Int} (hP : 0 < P.length) {i : Nat} (h : i ∈ occI P T) : i + P.length ≤ T.length := by
  have h2 := (occI_mem.1 h).2.length_le
  rw [List.length_drop] at h2
  have := (occI_mem.1 h).1
  omega
/-- all that is swapped, from the beginning on -/
def swF (P : List Int) (ws : List (List UInt8)) : Nat → List Int → List At
  | 0, _ => []
  | _ + 1, [] => []
  | f + 1, c :: T => if P.isPrefixOf (c :: T) = true then ws.map .p ++ (List.replicate P.length .d ++ swF P ws f ((c :: T).drop P.length)) else .k :: swF P ws f T
theorem swF_fuel {P : List Int} {ws : List (List UInt8)} (hP : 0 < P.length) : ∀ (f g : Nat) (T : List Int), T.length ≤ f → T.length ≤ g → swF P ws f T = swF P ws g T
  | 0, 0, _, _, _ => rfl
  | 0, g + 1, [], _, _ => rfl
  | 0, g + 1, c :: T, h, _ => by simp at h
  | f + 1, 0, [], _, _ => rfl
  | f + 1, 0, c :: T, _, h => by simp at h
  | f + 1, g + 1, [], _, _ => rfl
  | f + 1, g + 1, c :: T, h1, h2 => by
    rw [swF, swF]
    simp only [List.length_cons] at h1 h2
    have e1 := swF_fuel (ws := ws) hP f g T (by omega) (by omega)
    have e2 := swF_fuel (ws := ws) hP f g ((c :: T).drop P.length) (by rw [List.length_drop, List.length_cons]; omega) (by rw [List.length_drop, List.length_cons]; omega)
    rw [e1, e2]
def swA (P : List Int) (ws : List (List UInt8)) (T : List Int) : List At := swF P ws T.length T
theorem swA_nil (P : List Int) (ws : List (List UInt8)) : swA P ws [] = [] := rfl
theorem swA_hit {P : List Int} {ws : List (List UInt8)} {T : List Int} (hP : 0 < P.length) (h : P <+: T) : swA P ws T = ws.map .p ++ (List.replicate P.length .d ++ swA P ws (T.drop P.length)) := by
  match T with
  | [] =>
    have := h.length_le
    simp at this
    rw [this] at hP
    simp at hP
  | c :: T =>
    unfold swA
    rw [List.length_cons, swF, if_pos (by rw [List.isPrefixOf_iff_prefix]; exact h)]
    congr 2
    exact swF_fuel hP _ _ _ (by rw [List.length_drop, List.length_cons]; omega) (by rw [List.length_drop, List.length_cons]; omega)
theorem swA_miss {P : List Int} {ws : List (List UInt8)} {c : Int} {T : List Int} (hP : 0 < P.length) (h : ¬ P <+: c :: T) : swA P ws (c :: T) = .k :: swA P ws T := by
  unfold swA
  rw [List.length_cons, swF, if_neg (by rw [List.isPrefixOf_iff_prefix]; exact h)]
theorem swA_skip {P : List Int} {ws : List (List UInt8)} {T : List Int} (hP : 0 < P.length) {A : Nat} : ∀ (k : Nat), A + k ≤ T.length → (∀ i, A ≤ i → i < A + k → ¬ P <+: T.drop i) → swA P ws (T.drop A) = List.replicate k .k ++ swA P ws (T.drop (A + k))
  | 0, _, _ => by simp
  | k + 1, hk, h => by
    have hA : A + k < T.length := by omega
    rw [swA_skip hP k (by omega) (fun i h1 h2 => h i h1 (by omega))]
    have e : T.drop (A + k) = T[A + k] :: T.drop (A + k + 1) := List.drop_eq_getElem_cons hA
    have e2 : swA P ws (T.drop (A + k)) = .k :: swA P ws (T.drop (A + k + 1)) := by
      have := h (A + k) (by omega) (by omega)
      rw [e] at this ⊢
      exact swA_miss hP this
    rw [e2, List.replicate_succ', List.append_assoc]
    rfl
theorem swA_from {P : List Int} {ws : List (List UInt8)} (hP : 0 < P.length) : ∀ (n : Nat) (T : List Int), T.length ≤ n → At.fromN (swA P ws T) = T.length
  | n, [], _ => rfl
  | 0, c :: T, h => by simp at h
  | n + 1, c :: T, h => by
    rw [List.length_cons] at h
    by_cases hp : P <+: c :: T
    · have hl := hp.length_le
      rw [swA_hit hP hp, At.from_app, from_map, At.from_app, from_rep_d, swA_from hP n _ (by rw [List.length_drop, List.length_cons]; omega), List.length_drop]
      omega
    · rw [swA_miss hP hp, At.fromN, swA_from hP n T (by omega), List.length_cons]
theorem swA_puts {P : List Int} {ws : List (List UInt8)} (hP : 0 < P.length) : ∀ (n : Nat) (T : List Int), T.length ≤ n → At.putsN (swA P ws T) ≤ ws.length * T.length ∧ At.toN (swA P ws T) ≤ (ws.length + 1) * T.length ∧ (swA P ws T).length ≤ (ws.length + 1) * T.length
  | n, [], _ => by simp [swA_nil, At.putsN, At.toN]
  | 0, c :: T, h => by simp at h
  | n + 1, c :: T, h => by
    rw [List.length_cons] at h
    by_cases hp : P <+: c :: T
    · have hl := hp.length_le
      obtain ⟨i1, i2, i3⟩ := swA_puts (ws := ws) hP n ((c :: T).drop P.length) (by rw [List.length_drop, List.length_cons]; omega)
      rw [swA_hit hP hp, At.puts_app, puts_map, At.puts_app, puts_rep_d, At.to_app, to_map, At.to_app, to_rep_d]
      rw [List.length_drop] at i1 i2 i3
      simp only [List.length_append, List.length_map, List.length_replicate, List.length_cons] at *
      obtain ⟨d, hd⟩ : ∃ d, T.length + 1 = P.length + d := ⟨_, (Nat.add_sub_cancel' hl).symm⟩
      rw [show T.length + 1 - P.length = d by omega] at i1 i2 i3
      rw [hd, Nat.mul_add, Nat.mul_add]
      have q1 : ws.length * 1 ≤ ws.length * P.length := Nat.mul_le_mul_left _ hP
      have q2 : (ws.length + 1) * P.length = ws.length * P.length + P.length := by rw [Nat.add_mul, Nat.one_mul]
      omega
    · obtain ⟨i1, i2, i3⟩ := swA_puts (ws := ws) hP n T (by omega)
      rw [swA_miss hP hp]
      simp only [At.putsN, At.toN, List.length_cons, Nat.mul_add, Nat.mul_one] at *
      omega
theorem fits_put {n : Nat} {s : ByteArray} {ws : List (List UInt8)} (h : Tx s ws) (hn : ws.length = n) (h1 : 1 ≤ n) (h2 : n ≤ 1099511627776) : fitsB ⟨2, (n : Int), s⟩ = true :=
  fits_of_good ⟨by show (1 : Int) ≤ n; omega, .inr (.inr ⟨rfl, ws, h, by show (ws.length : Int) = n; omega⟩)⟩ (by show (n : Int) ≤ _; omega)
theorem one_k (n : Int) (h2 : n ≤ 1099511627776) : atomsL (([⟨1, n, ⟨#[]⟩⟩] : List Pt).filter fitsB) = List.replicate n.toNat .k := by
  by_cases h : 1 ≤ n
  · have hf : fitsB ⟨1, n, ⟨#[]⟩⟩ = true := fits_of_good ⟨h, .inl ⟨rfl, rfl⟩⟩ h2
    rw [List.filter_cons_of_pos hf, List.filter_nil, atomsL_one]
    exact atoms_keep _ _
  · have hf : ¬ fitsB ⟨1, n, ⟨#[]⟩⟩ = true := fun hf => by
      have := (fitsB_has hf).1
      exact h this
    rw [List.filter_cons_of_neg hf, List.filter_nil, show n.toNat = 0 by omega]
    rfl
theorem one_d (n : Int) (h2 : n ≤ 1099511627776) : atomsL (([⟨3, n, ⟨#[]⟩⟩] : List Pt).filter fitsB) = List.replicate n.toNat .d := by
  by_cases h : 1 ≤ n
  · have hf : fitsB ⟨3, n, ⟨#[]⟩⟩ = true := fits_of_good ⟨h, .inr (.inl ⟨rfl, rfl⟩)⟩ h2
    rw [List.filter_cons_of_pos hf, List.filter_nil, atomsL_one]
    exact atoms_drop _ _
  · have hf : ¬ fitsB ⟨3, n, ⟨#[]⟩⟩ = true := fun hf => by
      have := (fitsB_has hf).1
      exact h this
    rw [List.filter_cons_of_neg hf, List.filter_nil, show n.toNat = 0 by omega]
    rfl
theorem one_p {n : Nat} {s : ByteArray} {ws : List (List UInt8)} (h : Tx s ws) (hn : ws.length = n) (h2 : n ≤ 1099511627776) : atomsL (([⟨2, (n : Int), s⟩] : List Pt).filter fitsB) = ws.map .p := by
  by_cases h1 : 1 ≤ n
  · rw [List.filter_cons_of_pos (fits_put h hn h1 h2), List.filter_nil, atomsL_one]
    exact atoms_put h
  · have hf : ¬ fitsB ⟨2, (n : Int), s⟩ = true := fun hf => by
      have : (1 : Int) ≤ n := (fitsB_has hf).1
      omega
    rw [List.filter_cons_of_neg hf, List.filter_nil]
    obtain rfl : ws = [] := List.length_eq_zero_iff.1 (by omega)
    rfl
theorem putL_atoms {L : List Pt} {A F E n : Nat} {s : ByteArray} {ws : List (List UInt8)} (h : Tx s ws) (hn : ws.length = n) (h2 : n ≤ 1099511627776) (h3 : A ≤ F) (h4 : F ≤ E) (h5 : E ≤ 1099511627776) :
    atomsL ((putL L A F E n s).filter fitsB) = atomsL (L.filter fitsB) ++ (List.replicate (F - A) .k ++ (ws.map .p ++ List.replicate (E - F) .d)) := by
  unfold putL
  rw [show ([⟨1, (F : Int) - (A : Int), ⟨#[]⟩⟩, ⟨2, (n : Int), s⟩, ⟨3, (E : Int) - (F : Int), ⟨#[]⟩⟩] : List Pt) = [⟨1, (F : Int) - (A : Int), ⟨#[]⟩⟩] ++ ([⟨2, (n : Int), s⟩] ++ [⟨3, (E : Int) - (F : Int), ⟨#[]⟩⟩]) from rfl]
  rw [List.filter_append, List.filter_append, List.filter_append, atomsL_append, atomsL_append, atomsL_append, one_k _ (by omega), one_p h hn h2, one_d _ (by omega)]
  rw [show ((F : Int) - (A : Int)).toNat = F - A by omega, show ((E : Int) - (F : Int)).toNat = E - F by omega]
structure SI (P : List Int) (ws : List (List UInt8)) (T : List Int) (z k A : Nat) (L : List Pt) : Prop where
  eq : atomsL (L.filter fitsB) ++ swA P ws (T.drop A) = swA P ws T
  past : ∀ i, i < k → ∀ a, (occI P T)[i]? = some a → a < A
  le : A ≤ T.length
  len : L.length ≤ 3 * k
  txt : sumT L ≤ k * z
theorem SI.start (P : List Int) (ws : List (List UInt8)) (T : List Int) (z : Nat) : SI P ws T z 0 0 [] := ⟨by simp [atomsL], fun i h => by omega, by omega, by simp, by simp [sumT]⟩
theorem SI.none_between {P : List Int} {ws : List (List UInt8)} {T : List Int} {z k A : Nat} {L : List Pt} (h : SI P ws T z k A L) {b : Nat} (hk : ∀ (j a : Nat), k ≤ j → (occI P T)[j]? = some a → b ≤ a) (hbl : b ≤ T.length) : ∀ i, A ≤ i → i < b → ¬ P <+: T.drop i := by
  intro i h1 h2 hp
  have hm : i ∈ occI P T := occI_mem.2 ⟨by omega, hp⟩
  obtain ⟨j, hj⟩ := List.getElem?_of_mem hm
  by_cases hjk : j < k
  · have := h.past j hjk i hj
    omega
  · have := hk j i (by omega) hj
    omega
theorem sorted_get {l : List Nat} (h : l.Pairwise (· < ·)) {i j a b : Nat} (hi : l[i]? = some a) (hj : l[j]? = some b) (hij : i < j) : a < b := by
  rw [List.getElem?_eq_some_iff] at hi hj
  obtain ⟨h1, rfl⟩ := hi
  obtain ⟨h2, rfl⟩ := hj
  exact List.pairwise_iff_getElem.1 h i j h1 h2 hij
theorem SI.take {P : List Int} {ws : List (List UInt8)} {T : List Int} {k A a n : Nat} {L : List Pt} {s : ByteArray} (h : SI P ws T s.size k A L) (hP : 0 < P.length) (ha : (occI P T)[k]? = some a) (hA : A ≤ a) (hx : Tx s ws) (hn : ws.length = n) (h2 : n ≤ 1099511627776) (hT : T.length ≤ 1099511627776) : SI P ws T s.size (k + 1) (a + P.length) (putL L A a (a + P.length) n s) := by
  have hr := occI_room hP (List.mem_of_getElem? ha)
  have hm := (occI_mem.1 (List.mem_of_getElem? ha)).2
  refine ⟨?_, fun i hi b hb => ?_, hr, ?_, ?_⟩
  · rw [putL_atoms hx hn h2 hA (by omega) (by omega), ← h.eq]
    have e := swA_skip (ws := ws) (T := T) hP (A := A) (a - A) (by omega) (by
      rw [show A + (a - A) = a by omega]
      refine h.none_between (fun j b hj hb => ?_) (by omega)
      by_cases hjk : j = k
      · subst hjk
        rw [ha] at hb
        cases hb
        exact Nat.le_refl _
      · exact Nat.le_of_lt (sorted_get (occI_sorted P T) ha hb (by omega)))
    rw [show A + (a - A) = a by omega] at e
    rw [e, swA_hit hP hm, List.drop_drop, show a + P.length - a = P.length by omega]
    simp only [List.append_assoc]
  · by_cases hik : i = k
    · subst hik
      rw [ha] at hb
      cases hb
      omega
    · have := sorted_get (occI_sorted P T) hb ha (by omega)
      omega
  · have := h.len
    simp only [putL, List.length_append, List.length_cons, List.length_nil]
    omega
  · have := h.txt
    have e : sumT (putL L A a (a + P.length) n s) = sumT L + s.size := by
      rw [putL, sumT, List.map_append, List.sum_append]
      show sumT L + (0 + (s.size + (0 + 0))) = _
      omega
    rw [e, Nat.add_mul, Nat.one_mul]
    omega
theorem SI.pass {P : List Int} {ws : List (List UInt8)} {T : List Int} {z k A a : Nat} {L : List Pt} (h : SI P ws T z k A L) (ha : (occI P T)[k]? = some a) (hA : a < A) : SI P ws T z (k + 1) A L := by
  refine ⟨h.eq, fun i hi b hb => ?_, h.le, by have := h.len; omega, by have := h.txt; rw [Nat.add_mul]; omega⟩
  by_cases hik : i = k
  · subst hik
    rw [ha] at hb
    cases hb
    exact hA
  · exact h.past i (by omega) b hb
theorem SI.ends {P : List Int} {ws : List (List UInt8)} {T : List Int} {z k A : Nat} {L : List Pt} (h : SI P ws T z k A L) (hP : 0 < P.length) (hk : (occI P T).length ≤ k) (hT : T.length ≤ 1099511627776) : atomsL ((L ++ [(⟨1, (T.length : Int) - (A : Int), ⟨#[]⟩⟩ : Pt)]).filter fitsB) = swA P ws T := by
  rw [List.filter_append, atomsL_append, one_k _ (by omega), ← h.eq]
  congr 1
  have e := swA_skip (ws := ws) (T := T) hP (A := A) (T.length - A) (by have := h.le; omega) (by
    rw [show A + (T.length - A) = T.length by have := h.le; omega]
    refine h.none_between (fun j b hj hb => ?_) (Nat.le_refl _)
    have := (List.getElem?_eq_some_iff.1 hb).1
    omega)
  rw [show A + (T.length - A) = T.length by have := h.le; omega, List.drop_length, swA_nil, List.append_nil] at e
  rw [e]
  congr 1
  have := h.le
  omega
def SwapR (s t : ByteArray) (cs : List (List UInt8)) (w : World) (r : Ending) (w' : World) : Prop := (Lib.validD s.data.toList = false ∧ r = .returned (.tuple #[.slice none 0 0, .int .i64 21]) ∨ ∃ cp, Tx s cp ∧ (Lib.validD t.data.toList = false ∧ r = .returned (.tuple #[.slice none 0 0, .int .i64 21]) ∨ ∃ cw, Tx t cw ∧ (cp = [] ∧ r = .returned (.tuple #[.slice none 0 0, .int .i64 1]) ∨ cp ≠ [] ∧ ∃ v l, r = .returned (.tuple #[v, .int .i64 0]) ∧ OwnP w' w.heap.size v l ∧ NfG 0 l ∧ atomsL l = At.can (swA (rni cp) cw (rni cs))))) ∧ Below w.heap.size w w'
structure SW (w wr : World) (gp : Nat) (vo : Value) (O : List Nat) (P : List Int) (ws : List (List UInt8)) (T : List Int) (z k A : Nat) (v : Value) (L : List Pt) : Prop where
  si : SI P ws T z k A L
  pa : Pa wr w.heap.size gp v A L
  oc : wr.ownsRow w.heap.size 3 1 vo O.length (nsv O)
  bel : Below w.heap.size w wr
  sz : w.heap.size ≤ gp
theorem SW.step {w wr w' : World} {gp : Nat} {vo : Value} {O : List Nat} {P : List Int} {ws : List (List UInt8)} {T : List Int} {s : ByteArray} {k A a n : Nat} {v v' : Value} {L : List Pt} (h : SW w wr gp vo O P ws T s.size k A v L) (hO : O = occI P T) (hP : 0 < P.length) (ha : O[k]? = some a) (hA : A ≤ a) (hx : Tx s ws) (hn : ws.length = n) (h2 : n ≤ 1099511627776) (hT : T.length ≤ 1099511627776) (hp : Pa w' w.heap.size gp v' (a + P.length) (putL L A a (a + P.length) n s)) (ho : Only (fun k => k = gp ∨ v.ownBlock = some k) wr w') : SW w w' gp vo O P ws T s.size (k + 1) (a + P.length) v' (putL L A a (a + P.length) n s) := by
  subst hO
  refine ⟨h.si.take hP ha hA hx hn h2 hT, hp, own_only h.oc ho (fun q hq => ?_), h.bel.trans (ho.below h.bel.size (fun q hq => ?_)), h.sz⟩
  · rintro (rfl | h9)
    · exact tag_ne h.oc h.pa.row (by decide) hq
    · exact own_ne h.oc h.pa.parts (by decide) q hq h9
  · rcases hq with rfl | h9
    · exact h.sz
    · exact own_ge h.pa.parts h9
theorem SW.pass {w wr : World} {gp : Nat} {vo : Value} {O : List Nat} {P : List Int} {ws : List (List UInt8)} {T : List Int} {z k A a : Nat} {v : Value} {L : List Pt} (h : SW w wr gp vo O P ws T z k A v L) (hO : O = occI P T) (ha : O[k]? = some a) (hA : a < A) : SW w wr gp vo O P ws T z (k + 1) A v L := by
  subst hO
  exact ⟨h.si.pass ha hA, h.pa, h.oc, h.bel, h.sz⟩
set_option maxRecDepth 100000 in
set_option maxHeartbeats 4000000 in
theorem swap_ok {w : World} {B g : Nat} {vr vs : Value} {cs : List (List UInt8)} (h : Ix w B g vr vs cs) (s t : ByteArray) (hT : UT w) (hl : cs.length ≤ 1048576) (hs : s.size ≤ 1048576) (ht : t.size ≤ 1048576) : Calls Tryd.prog 32 #[.pointer (some ⟨g, 0, none⟩), .string s, .string t] w fun r w' => SwapR s t cs w r w' := by
  have HU : Hid (∀ W, Below w.heap.size w W → UT W) := hide (fun W hb => hT.call hb)
  obtain ⟨ar, cr, as_, c_, e1, e2, q0, q1⟩ := h.two
  have KM := hide (made_ok g w as_ _ c_ q1 (sts_pos cs))
  have KT := hide (trunes_any s 9223372036854775807 w hT (by omega))
  have HIX := hide h
  have HE1 := hide e1
  clear h e1 e2 q1 hT
  go_enter Tryd.func32, Tryd.ntmps32
  go_wp2_with fail
  refine Calls.mono (unhide KM) ?_
  rintro r w1 ⟨rfl, rfl⟩
  go_wp2_with fail
  refine Calls.mono (unhide KT) ?_
  rintro r w2 ⟨h2, b2⟩
  have B2 := hide b2
  have HI2 := hide ((unhide HIX).call b2)
  clear b2 q0 KT
  rcases h2 with ⟨hv, rfl⟩ | ⟨cp, hx, ⟨h2, rfl⟩ | ⟨h2, v, rfl, ho, -⟩⟩
  · go_wp2_with fail
    go_ret2
    exact ⟨.inl ⟨hv, rfl⟩, unhide B2⟩
  · exfalso
    have := hx.cps.len
    rw [← hx.size] at this
    omega
  · have hfew : cp.length ≤ 1048576 := by have := hx.cps.len; rw [← hx.size] at this; omega
    obtain ⟨ap, c3, rfl, hc1, hc2⟩ := own_sl ho
    have HX := hide hx
    have HO := hide ho
    have KV := hide (valid_any t w2 (unhide HU _ (unhide B2)) (by omega))
    obtain ⟨m, hm⟩ : ∃ m, cp.length = m := ⟨_, rfl⟩
    have HM := hide hm
    rw [hm] at HO hc1 hfew ⊢
    clear hx ho hm
    go_wp2_with fail
    refine Calls.mono (unhide KV) ?_
    rintro r w3 ⟨rfl, b3⟩
    have B3 := hide ((unhide B2).trans (b3.mono (unhide B2).size))
    have HI3 := hide ((unhide HI2).call b3)
    have HO3 := hide (own_call (unhide HO) b3)
    clear b3 KV HI2 HO
    cases hvt : Lib.validD t.data.toList with
    | false =>
      go_wp2_with fail
      go_ret2
      exact ⟨.inr ⟨cp, unhide HX, .inl ⟨hvt, rfl⟩⟩, unhide B3⟩
    | true =>
      obtain ⟨cw, hxt⟩ := tx_of_valid hvt
      have HXT := hide hxt
      clear hvt hxt
      by_cases h0 : m = 0
      · subst h0
        go_wp2_with fail
        go_ret2
        exact ⟨.inr ⟨cp, unhide HX, .inr ⟨cw, unhide HXT, .inl ⟨List.length_eq_zero_iff.1 (unhide HM), rfl⟩⟩⟩, unhide B3⟩
      · have hm0 : ((m : Int) == 0) = false := by simp; omega
        have hpos : 0 < m := by omega
        have hr3 := (unhide HI3).r
        have q0 := (unhide HI3).row.cell 0
        simp only [List.getElem?_cons_zero] at q0
        have ho3 := unhide HO3
        rw [rnv_riv] at ho3 hr3
        obtain ⟨P, hP⟩ : ∃ z, rni cp = z := ⟨_, rfl⟩
        obtain ⟨T, hT⟩ : ∃ z, rni cs = z := ⟨_, rfl⟩
        have hPm : P.length = m := by rw [← hP, rni_len]; exact unhide HM
        have hTn : T.length = cs.length := by rw [← hT, rni_len]
        have HP := hide hP
        have HT := hide hT
        rw [hP] at ho3
        rw [hT] at hr3
        have bA : Below w3.heap.size w3 (w3.alloc (.cells #[.int .i64 0, .slice none 0 0] 87)) := (Below.refl _ _).alloc (Nat.le_refl _) _
        have HN := hide (RowAt.new w3 87 [.int .i64 0, .slice none 0 0])
        have q0' : (w3.alloc (.cells #[.int .i64 0, .slice none 0 0] 87)).cell? ⟨g, 0, none⟩ = some vr := by
          have h9 := (((unhide HI3).row).below bA (unhide HI3).row.lt).cell 0
          simpa using h9
        have KP := hide (places_any _ _ m cs.length _ vr P T (w3.alloc (.cells #[.int .i64 0, .slice none 0 0] 87)) (own_call hr3 bA) (own_call ho3 bA) hpos (by omega) (by omega))
        rw [unhide HE1] at q0' KP
        obtain ⟨gp, hgp⟩ : ∃ z, w3.heap.size = z := ⟨_, rfl⟩
        have hgw : w.heap.size ≤ gp := by rw [← hgp]; exact (unhide B3).size
        have BA := hide ((unhide B3).trans (bA.mono (unhide B3).size))
        obtain ⟨w4, hw4⟩ : ∃ z, w3.alloc (.cells #[.int .i64 0, .slice none 0 0] 87) = z := ⟨_, rfl⟩
        have HW4 := hide hw4
        rw [hw4] at q0' KP HN BA
        rw [hgp] at HN
        have HPM := hide hPm
        have HTN := hide hTn
        obtain ⟨n, hn⟩ : ∃ n, cs.length = n := ⟨_, rfl⟩
        rw [hn] at q0' KP hl
        have HNN := hide hn
        have HM0 := hide h0
        have hmI : (m : Int) ≤ 1048576 := by omega
        clear hP hT hr3 ho3 q0 bA hPm hTn hn HO3 h0
        go_wp2_with fail
        try rw [hgp]
        try rw [unhide HW4]
        try rw [unhide HNN]
        clear hw4 HW4
        clear hgp
        refine Calls.mono (unhide KP) ?_
        rintro r w5 ⟨v5, rfl, ho5, b5⟩
        obtain ⟨O, hO⟩ : ∃ z, occ P T T.length = z := ⟨_, rfl⟩
        have HOI : Hid (O = occI P T) := hide (by rw [← hO]; exact occ_occI (by rw [unhide HPM]; exact hpos))
        rw [hO] at ho5
        have HO5 := hide (own_base ho5 (unhide BA).size)
        obtain ⟨a5, c5, rfl, hoc5, hom5⟩ := own_sl ho5
        have hOl : O.length ≤ n := by
          rw [unhide HOI, occI]
          refine Nat.le_trans (List.length_filter_le _ _) ?_
          rw [List.length_range, unhide HTN, unhide HNN]
          exact Nat.le_refl _
        have HB5 := hide ((unhide BA).trans (b5.mono (unhide BA).size))
        have HS : Hid (SW w w5 gp (.slice a5 O.length c5) O P cw T t.size 0 0 (.slice none 0 0) []) := hide ⟨SI.start P cw T t.size, ⟨(unhide HN).below b5 (unhide HN).lt, ⟨rfl, .inl ⟨rfl, rfl⟩⟩, hgw⟩, unhide HO5, unhide HB5, hgw⟩
        obtain ⟨ol, hol⟩ : ∃ z, O.length = z := ⟨_, rfl⟩
        have HOL := hide hol
        rw [hol] at HS hOl hoc5 ⊢
        clear hol hO ho5 b5 KP q0' BA HN HB5 HO5
        go_wp2_with fail
        go_loopw [11, 38] (fun fv i wr => ∃ (k A : Nat), k ≤ ol ∧ i = .int .i64 (k : Int) ∧ fv = .int .i64 (A : Int) ∧ Hid (∃ v L, SW w wr gp (.slice a5 ol c5) O P cw T t.size k A v L)) (fun _ i _ => ((ol : Int) - intOf i).toNat)
        case atStart => exact ⟨0, 0, by omega, by simp, by simp, hide ⟨_, _, unhide HS⟩⟩
        case round =>
          obtain ⟨k, A, hk, rfl, rfl, HL⟩ := hrel
          obtain ⟨pv_, L, HL2⟩ : ∃ v L, Hid (SW w wr gp (.slice a5 ol c5) O P cw T t.size k A v L) := by obtain ⟨a, b, c⟩ := unhide HL; exact ⟨a, b, hide c⟩
          have hA1 : (A : Int) ≤ 1048576 := by have := (unhide HL2).si.le; rw [unhide HTN, unhide HNN] at this; omega
          by_cases c : (k : Int) < (ol : Int)
          · have hkl : k < O.length := by rw [unhide HOL]; omega
            obtain ⟨a, ha⟩ : ∃ a, O[k]? = some a := ⟨_, List.getElem?_eq_getElem hkl⟩
            obtain ⟨go, c6, e6, hc6, _, hcc, hcm⟩ := own_rd (unhide HL2).oc (i := k) (u := .int .i64 (a : Int)) (by simp [nsv, ha])
            injection e6 with e6 e8 e7
            clear e8
            subst e6 e7
            have hroom := occI_room (P := P) (T := T) (by rw [unhide HPM]; exact hpos) (i := a) (by rw [← unhide HOI]; exact List.mem_of_getElem? ha)
            rw [unhide HPM, unhide HTN, unhide HNN] at hroom
            have HA := hide ha
            have hr1 : (a : Int) + (m : Int) ≤ 1048576 := by omega
            have k0 : (0 : Int) ≤ (k : Int) := by omega
            clear hkl hroom ha
            by_cases cA : (A : Int) ≤ (a : Int)
            · have KQ := hide (put_ok w.heap.size gp A a (a + m) cw.length pv_ L t wr (unhide HL2).pa (unhide HXT).count (by omega) (by omega) (by omega) (by omega) (by have h8 := (unhide HL2).si.len; omega))
              simp only [Int.natCast_add] at KQ
              clear HL
              go_wp2_with fail
              refine Calls.mono (unhide KQ) ?_
              rintro r w6 ⟨v6, rfl, hp6, o6⟩
              have HL3 : Hid (SW w w6 gp (.slice (some ⟨go, 0, none⟩) ol c5) O P cw T t.size (k + 1) (a + m) v6 (putL L A a (a + m) cw.length t)) := by
                have h9 := (unhide HL2).step (unhide HOI) (by rw [unhide HPM]; exact hpos) (unhide HA) (by omega) (unhide HXT) rfl (by have h8 := (unhide HXT).cps.len; rw [← (unhide HXT).size] at h8; omega) (by rw [unhide HTN, unhide HNN]; omega) (w' := w6) (v' := v6) (by rw [unhide HPM]; exact hp6) o6
                rw [unhide HPM] at h9
                exact hide h9
              clear hp6 o6 KQ HL2
              go_wp2_with fail
              exact ⟨⟨k + 1, a + m, by omega, by simp, by simp, hide ⟨_, _, unhide HL3⟩⟩, by simp [intOf]; omega⟩
            · have HL3 := hide ((unhide HL2).pass (unhide HOI) (unhide HA) (by omega))
              clear HL
              go_wp2_with fail
              exact ⟨⟨k + 1, A, by omega, by simp, by simp, hide ⟨_, _, unhide HL3⟩⟩, by simp [intOf]; omega⟩
          · obtain rfl : ol = k := by omega
            have KE := hide (edit_ok w.heap.size gp A n pv_ L wr (fun W hb => unhide HU _ ((unhide HL2).bel.trans hb)) (unhide HL2).pa (by have := (unhide HL2).si.le; rw [unhide HTN, unhide HNN] at this; exact this) (by omega) (by have h8 := (unhide HL2).si.len; omega) (by have h8 := (unhide HL2).si.txt; have h9 : ol * t.size ≤ 1048576 * 1048576 := Nat.mul_le_mul (by omega) ht; omega))
            have q0' : wr.cell? ⟨g, 0, none⟩ = some (.slice ar n cr) := by
              have h9 := (((unhide HIX).row).below (unhide HL2).bel (unhide HIX).row.lt).cell 0
              rw [unhide HE1, unhide HNN] at h9
              simpa using h9
            have heq := (unhide HL2).si.ends (by rw [unhide HPM]; exact hpos) (by rw [← unhide HOI, unhide HOL]; exact Nat.le_refl _) (by rw [unhide HTN, unhide HNN]; omega)
            rw [unhide HTN, unhide HNN] at heq
            have hsz := (swA_puts (P := P) (ws := cw) (by rw [unhide HPM]; exact hpos) _ T (Nat.le_refl _)).2.2
            have hcw : cw.length ≤ 1048576 := by have h8 := (unhide HXT).cps.len; rw [← (unhide HXT).size] at h8; omega
            have hsz2 : (cw.length + 1) * T.length ≤ 1048577 * 1048576 := Nat.mul_le_mul (by omega) (by rw [unhide HTN, unhide HNN]; omega)
            have hg := norm_good (L ++ [⟨1, (n : Int) - (A : Int), ⟨#[]⟩⟩]) (by rw [heq]; omega)
            rw [heq] at hg
            have HG := hide hg
            have HB6 := hide (unhide HL2).bel
            clear heq hsz hcw hsz2 hg HL HL2
            go_wp2_with fail
            refine Calls.mono (unhide KE) ?_
            rintro r w6 ⟨v6, rfl, hp6, b6⟩
            have HP6 := hide hp6
            have HB7 := hide ((unhide HB6).trans b6)
            obtain ⟨a6, c6, rfl, _, _⟩ := own_sl3 hp6
            clear hp6 b6 KE
            go_wp2_with fail
            go_ret2
            refine ⟨.inr ⟨cp, unhide HX, .inr ⟨cw, unhide HXT, .inr ⟨?_, _, _, rfl, unhide HP6, (unhide HG).1, ?_⟩⟩⟩, unhide HB7⟩
            · intro h9
              have := unhide HM
              rw [h9] at this
              exact unhide HM0 this.symm
            · have h9 := (unhide HG).2
              rw [unhide HP, unhide HT]
              exact h9
end Go.Proofs.YtdnbhomjfgpcfaaDoor
