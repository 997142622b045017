/- Labels, quotas and entries that are cloned. -/
import Derived.Test.YtbahnkomdndmkabRight
import Derived.Lib.LazyBuf
import Derived.Lib.SmallJoins
import Derived.Laws.OwnMore
namespace Go.Proofs.Ytbahnkomdndmkab
set_option linter.unusedVariables false
set_option linter.unusedSimpArgs false
open Go.ChangeShapes Go.WideShapes Go.ChangeAt Go.RowKit

def rowVals (f : Nat → List Value) : Nat → List Value
  | 0 => []
  | n + 1 => rowVals f n ++ f n
theorem rv_len {f : Nat → List Value} {k : Nat} (h : ∀ i, (f i).length = k) (n : Nat) : (rowVals f n).length = n * k := by
  induction n with
  | zero => simp [rowVals]
  | succ n ih => rw [rowVals, List.length_append, ih, h, Nat.add_mul, Nat.one_mul]
theorem rv_get {f : Nat → List Value} {k : Nat} (h : ∀ i, (f i).length = k) (n i j : Nat) (hi : i < n) (hj : j < k) : (rowVals f n)[i * k + j]? = (f i)[j]? := by
  induction n with
  | zero => omega
  | succ n ih =>
    rw [rowVals]
    by_cases hin : i < n
    · have hm : (i + 1) * k ≤ n * k := Nat.mul_le_mul_right k hin
      rw [Nat.add_mul, Nat.one_mul] at hm
      rw [List.getElem?_append_left (by rw [rv_len h]; omega)]
      exact ih hin
    · obtain rfl : i = n := by omega
      rw [List.getElem?_append_right (by rw [rv_len h]; omega), rv_len h]
      congr 1
      omega
theorem rv_inv {f : Nat → List Value} {k : Nat} (h : ∀ i, (f i).length = k) (hk : 0 < k) {n m : Nat} {u : Value} (hm : (rowVals f n)[m]? = some u) : ∃ i j, i < n ∧ j < k ∧ m = i * k + j ∧ (f i)[j]? = some u := by
  have hlt : m < n * k := by
    by_cases hlt : m < n * k
    · exact hlt
    · rw [List.getElem?_eq_none (by rw [rv_len h]; omega)] at hm; cases hm
  have e : m = m / k * k + m % k := by rw [Nat.mul_comm]; exact (Nat.div_add_mod m k).symm
  have hi : m / k < n := (Nat.div_lt_iff_lt_mul hk).2 hlt
  have hj := Nat.mod_lt m hk
  refine ⟨m / k, m % k, hi, hj, e, ?_⟩
  rw [← rv_get h n _ _ hi hj, ← e]
  exact hm
def RowAt (w : World) (b off n k : Nat) (f : Nat → List Value) : Prop := ∀ i j u, i < n → j < k → (f i)[j]? = some u → w.cell? ⟨b, off + (i * k + j), none⟩ = some u

def fL (L C : Nat → Int) (i : Nat) : List Value := [.int .i64 (L i), .int .u32 (C i)]
def fQ (A B C : Nat → Int) (i : Nat) : List Value := [.int .i64 (A i), .int .i64 (B i), .int .i64 (C i)]
def fE (A : Nat → Int) (S : Nat → ByteArray) (D : Nat → Bool) (i : Nat) : List Value := [.int .i64 (A i), .string (S i), .bool (D i)]
theorem row_L {w : World} {b off n : Nat} {L C : Nat → Int} : LabRow w b off n L C ↔ RowAt w b off n 2 (fL L C) := by
  constructor
  · intro h i j u hi hj hu
    have := h i hi
    match j, hj, hu with
    | 0, _, hu => cases hu; exact this.1
    | 1, _, hu => cases hu; rw [← Nat.add_assoc]; exact this.2
  · intro h i hi
    exact ⟨h i 0 _ hi (by decide) rfl, by have := h i 1 _ hi (by decide) rfl; rwa [← Nat.add_assoc] at this⟩
theorem row_Q {w : World} {b off n : Nat} {A B C : Nat → Int} : QuoRow w b off n A B C ↔ RowAt w b off n 3 (fQ A B C) := by
  constructor
  · intro h i j u hi hj hu
    have := h i hi
    match j, hj, hu with
    | 0, _, hu => cases hu; exact this.1
    | 1, _, hu => cases hu; rw [← Nat.add_assoc]; exact this.2.1
    | 2, _, hu => cases hu; rw [← Nat.add_assoc]; exact this.2.2
  · intro h i hi
    exact ⟨h i 0 _ hi (by decide) rfl, by have := h i 1 _ hi (by decide) rfl; rwa [← Nat.add_assoc] at this, by have := h i 2 _ hi (by decide) rfl; rwa [← Nat.add_assoc] at this⟩
theorem row_E {w : World} {b off n : Nat} {A : Nat → Int} {S : Nat → ByteArray} {D : Nat → Bool} : EntRow w b off n A S D ↔ RowAt w b off n 3 (fE A S D) := by
  constructor
  · intro h i j u hi hj hu
    have := h i hi
    match j, hj, hu with
    | 0, _, hu => cases hu; exact this.1
    | 1, _, hu => cases hu; rw [← Nat.add_assoc]; exact this.2.1
    | 2, _, hu => cases hu; rw [← Nat.add_assoc]; exact this.2.2
  · intro h i hi
    exact ⟨h i 0 _ hi (by decide) rfl, by have := h i 1 _ hi (by decide) rfl; rwa [← Nat.add_assoc] at this, by have := h i 2 _ hi (by decide) rfl; rwa [← Nat.add_assoc] at this⟩
theorem row_news {w : World} {b off n k : Nat} {f : Nat → List Value} (h : RowAt w b off n k f) (hf : ∀ i, (f i).length = k) (hk : 0 < k) : ∀ j u, (rowVals f n)[j]? = some u → w.cell? ((⟨b, off, none⟩ : Addr).add j) = some u := by
  intro m u hm
  rw [add_plain]
  obtain ⟨i, j, hi, hj, rfl, hu⟩ := rv_inv hf hk hm
  exact h i j u hi hj hu
theorem rv_one {f : Nat → List Value} {k : Nat} (hf : ∀ i, (f i).length = k) (hk : 0 < k) (h1 : ∀ i, ∀ u ∈ f i, u.oneCell' = true) (n : Nat) : ∀ u ∈ rowVals f n, u.oneCell' = true := by
  intro u hu
  obtain ⟨m, hm⟩ := List.getElem?_of_mem hu
  obtain ⟨i, j, _, _, _, hu⟩ := rv_inv hf hk hm
  exact h1 i u (List.mem_of_getElem? hu)
theorem len_L (L C : Nat → Int) : ∀ i, (fL L C i).length = 2 := fun _ => rfl
theorem len_Q (A B C : Nat → Int) : ∀ i, (fQ A B C i).length = 3 := fun _ => rfl
theorem len_E (A : Nat → Int) (S : Nat → ByteArray) (D : Nat → Bool) : ∀ i, (fE A S D i).length = 3 := fun _ => rfl
theorem one_L (L C : Nat → Int) : ∀ i, ∀ u ∈ fL L C i, u.oneCell' = true := by
  intro i u hu
  simp only [fL, List.mem_cons, List.mem_nil_iff, or_false] at hu
  rcases hu with rfl | rfl <;> rfl
theorem one_Q (A B C : Nat → Int) : ∀ i, ∀ u ∈ fQ A B C i, u.oneCell' = true := by
  intro i u hu
  simp only [fQ, List.mem_cons, List.mem_nil_iff, or_false] at hu
  rcases hu with rfl | rfl | rfl <;> rfl
theorem one_E (A : Nat → Int) (S : Nat → ByteArray) (D : Nat → Bool) : ∀ i, ∀ u ∈ fE A S D i, u.oneCell' = true := by
  intro i u hu
  simp only [fE, List.mem_cons, List.mem_nil_iff, or_false] at hu
  rcases hu with rfl | rfl | rfl <;> rfl
/-- own rows hold what they hold -/
theorem own_row {w : World} {base E k n : Nat} {v : Value} {f : Nat → List Value} (h : w.ownsRow base E k v n (rowVals f n)) (hf : ∀ i, (f i).length = k) :
    ∃ a cap, v = .slice a n cap ∧ n ≤ cap ∧ cap ≤ maxLen ∧ (n = 0 ∨ ∃ g, a = some ⟨g, 0, none⟩ ∧ base ≤ g ∧ g < w.heap.size ∧ RowAt w g 0 n k f ∧ ∀ j, w.frozen? ⟨g, j, none⟩ = false) := by
  have h0 := h
  obtain ⟨_, ⟨rfl, rfl⟩ | ⟨g, cap, cur, rfl, hg, hh, h1, h2, h3, h4⟩⟩ := h
  · exact ⟨none, 0, rfl, Nat.le_refl _, Nat.zero_le _, .inl rfl⟩
  · refine ⟨some ⟨g, 0, none⟩, cap, rfl, h1, h2, .inr ⟨g, rfl, hg, (h0.lt g rfl).2, fun i j u hi hj hu => ?_, fun j => h0.frozenAt j⟩⟩
    have q := h0.cells rfl (i * k + j) u (by rw [rv_get hf n i j hi hj]; exact hu)
    rw [add_plain] at q
    exact q
theorem lt_of_cellb {w : World} {a : Addr} {v : Value} (h : w.cell? a = some v) : a.block < w.heap.size := by
  by_cases hlt : a.block < w.heap.size
  · exact hlt
  · exfalso
    obtain ⟨b, o, s⟩ := a
    simp [World.cell?, Array.getElem?_eq_none (Nat.le_of_not_lt hlt)] at h

theorem info24 : (Try.prog.info? 24).map (fun i => (i.zero, i.size, i.bytes)) = some (some (.agg #[.int .i64 0, .int .u32 0]), 2, 16) := by kernel_rfl
set_option maxHeartbeats 1000000 in
theorem cloneL_any (a : Option Addr) (n cap : Nat) (L C : Nat → Int) (w : World) (hp : PolLabs w a n L C) (hn : n ≤ 200) :
    Calls Try.prog 17 #[.slice a n cap] w fun e w' => ∃ v, e = .returned v ∧ w'.ownsRow w.heap.size 24 2 v n (rowVals (fL L C) n) ∧ Below w.heap.size w w' := by
  obtain ⟨i0, hi, hz0, hz1, hz2⟩ := info_parts info24
  cases a with
  | none =>
    have h0 : n = 0 := by
      rcases hp.2.2 with h | ⟨b, off, h, _⟩
      · exact h
      · cases h
    subst h0
    have hq := fun W => Go.run_eql_slice_nil (P := Try.prog) W 30 24 none 0 cap Try.underlying30
    clear hp
    go_enter Try.func17, Try.ntmps17
    go_wp2
    go_ret
    exact ⟨_, rfl, ⟨by simp [rowVals], .inl ⟨rfl, rfl⟩⟩, Below.refl _ _⟩
  | some ad =>
    have hq := fun W => Go.run_eql_slice_nil (P := Try.prog) W 30 24 (some ad) n cap Try.underlying30
    have hB : Below w.heap.size w (w.alloc (.cells #[] 24)) := (Below.refl _ _).alloc (Nat.le_refl _) _
    have hnews : ∀ j u, (rowVals (fL L C) n)[j]? = some u → (w.alloc (.cells #[] 24)).cell? (ad.add j) = some u := by
      rcases hp.2.2 with rfl | ⟨b, off, h, hb, hr⟩
      · intro j u hj; cases hj
      · injection h with h
        subst h
        intro j u hj
        have := row_news (row_L.1 hr) (len_L L C) (by decide) j u hj
        exact cell_keep hB (lt_of_cellb this) this
    have HN := hide hnews
    clear hnews hp
    have hlen := rv_len (len_L L C) n
    have HL := hide hlen
    clear hlen
    have hown : (w.alloc (.cells #[] 24)).ownsRow w.heap.size 24 2 (.slice (some ⟨w.heap.size, 0, none⟩) 0 0) 0 [] := World.ownsRow_made w #[] 0 (Nat.le_refl _) (Nat.zero_le _) rfl
    go_enter Try.func17, Try.ntmps17
    go_wp2_with (at_builtin; refine wpList_append_own _ rfl _ _ 30 rfl w.heap.size 24 i0 (.agg #[.int .i64 0, .int .u32 0]) 2 16 Try.underlying30 hi hz0 hz1 hz2 rfl (by decide) _ _ _ rfl hown ad n cap (rowVals (fL L C) n) rfl ?c0 ?c1 ?c2 ?c3 ?c4 ?c5 ?_)
    case c0 => exact unhide HL
    case c1 => exact unhide HN
    case c2 => exact rv_one (len_L L C) (by decide) (one_L L C) n
    case c3 => unfold maxLen; omega
    case c4 => omega
    case c5 => simp
    intro v' w' hown' hgrow _
    go_wp2
    go_ret
    refine ⟨_, rfl, ?_, ?_⟩
    · simpa using hown'
    · exact hB.grown hgrow (by simp) (fun k hk => by simp [Value.ownBlock] at hk; omega)

theorem info44 : (Try.prog.info? 44).map (fun i => (i.zero, i.size, i.bytes)) = some (some (.agg #[.int .i64 0, .int .i64 0, .int .i64 0]), 3, 24) := by kernel_rfl
set_option maxHeartbeats 1000000 in
theorem cloneQ_any (a : Option Addr) (n cap : Nat) (A B C : Nat → Int) (w : World) (hp : PolQuos w a n A B C) (hn : n ≤ 200) :
    Calls Try.prog 18 #[.slice a n cap] w fun e w' => ∃ v, e = .returned v ∧ w'.ownsRow w.heap.size 44 3 v n (rowVals (fQ A B C) n) ∧ Below w.heap.size w w' := by
  obtain ⟨i0, hi, hz0, hz1, hz2⟩ := info_parts info44
  cases a with
  | none =>
    have h0 : n = 0 := by
      rcases hp.2.2 with h | ⟨b, off, h, _⟩
      · exact h
      · cases h
    subst h0
    have hq := fun W => Go.run_eql_slice_nil (P := Try.prog) W 31 44 none 0 cap Try.underlying31
    clear hp
    go_enter Try.func18, Try.ntmps18
    go_wp2
    go_ret
    exact ⟨_, rfl, ⟨by simp [rowVals], .inl ⟨rfl, rfl⟩⟩, Below.refl _ _⟩
  | some ad =>
    have hq := fun W => Go.run_eql_slice_nil (P := Try.prog) W 31 44 (some ad) n cap Try.underlying31
    have hB : Below w.heap.size w (w.alloc (.cells #[] 44)) := (Below.refl _ _).alloc (Nat.le_refl _) _
    have hnews : ∀ j u, (rowVals (fQ A B C) n)[j]? = some u → (w.alloc (.cells #[] 44)).cell? (ad.add j) = some u := by
      rcases hp.2.2 with rfl | ⟨b, off, h, hb, hr⟩
      · intro j u hj; cases hj
      · injection h with h
        subst h
        intro j u hj
        have := row_news (row_Q.1 hr) (len_Q A B C) (by decide) j u hj
        exact cell_keep hB (lt_of_cellb this) this
    have HN := hide hnews
    clear hnews hp
    have hlen := rv_len (len_Q A B C) n
    have HL := hide hlen
    clear hlen
    have hown : (w.alloc (.cells #[] 44)).ownsRow w.heap.size 44 3 (.slice (some ⟨w.heap.size, 0, none⟩) 0 0) 0 [] := World.ownsRow_made w #[] 0 (Nat.le_refl _) (Nat.zero_le _) rfl
    go_enter Try.func18, Try.ntmps18
    go_wp2_with (at_builtin; refine wpList_append_own _ rfl _ _ 31 rfl w.heap.size 44 i0 (.agg #[.int .i64 0, .int .i64 0, .int .i64 0]) 3 24 Try.underlying31 hi hz0 hz1 hz2 rfl (by decide) _ _ _ rfl hown ad n cap (rowVals (fQ A B C) n) rfl ?c0 ?c1 ?c2 ?c3 ?c4 ?c5 ?_)
    case c0 => exact unhide HL
    case c1 => exact unhide HN
    case c2 => exact rv_one (len_Q A B C) (by decide) (one_Q A B C) n
    case c3 => unfold maxLen; omega
    case c4 => omega
    case c5 => simp
    intro v' w' hown' hgrow _
    go_wp2
    go_ret
    refine ⟨_, rfl, ?_, ?_⟩
    · simpa using hown'
    · exact hB.grown hgrow (by simp) (fun k hk => by simp [Value.ownBlock] at hk; omega)

theorem info47 : (Try.prog.info? 47).map (fun i => (i.zero, i.size, i.bytes)) = some (some (.agg #[.int .i64 0, .string .empty, .bool false]), 3, 32) := by kernel_rfl
set_option maxHeartbeats 1000000 in
theorem cloneE_any (a : Option Addr) (n cap : Nat) (A : Nat → Int) (S : Nat → ByteArray) (D : Nat → Bool) (w : World) (hp : PolEnts w a n A S D) (hn : n ≤ 200) :
    Calls Try.prog 19 #[.slice a n cap] w fun e w' => ∃ v, e = .returned v ∧ w'.ownsRow w.heap.size 47 3 v n (rowVals (fE A S D) n) ∧ Below w.heap.size w w' := by
  obtain ⟨i0, hi, hz0, hz1, hz2⟩ := info_parts info47
  cases a with
  | none =>
    have h0 : n = 0 := by
      rcases hp.2.2 with h | ⟨b, off, h, _⟩
      · exact h
      · cases h
    subst h0
    have hq := fun W => Go.run_eql_slice_nil (P := Try.prog) W 32 47 none 0 cap Try.underlying32
    clear hp
    go_enter Try.func19, Try.ntmps19
    go_wp2
    go_ret
    exact ⟨_, rfl, ⟨by simp [rowVals], .inl ⟨rfl, rfl⟩⟩, Below.refl _ _⟩
  | some ad =>
    have hq := fun W => Go.run_eql_slice_nil (P := Try.prog) W 32 47 (some ad) n cap Try.underlying32
    have hB : Below w.heap.size w (w.alloc (.cells #[] 47)) := (Below.refl _ _).alloc (Nat.le_refl _) _
    have hnews : ∀ j u, (rowVals (fE A S D) n)[j]? = some u → (w.alloc (.cells #[] 47)).cell? (ad.add j) = some u := by
      rcases hp.2.2 with rfl | ⟨b, off, h, hb, hr⟩
      · intro j u hj; cases hj
      · injection h with h
        subst h
        intro j u hj
        have := row_news (row_E.1 hr) (len_E A S D) (by decide) j u hj
        exact cell_keep hB (lt_of_cellb this) this
    have HN := hide hnews
    clear hnews hp
    have hlen := rv_len (len_E A S D) n
    have HL := hide hlen
    clear hlen
    have hown : (w.alloc (.cells #[] 47)).ownsRow w.heap.size 47 3 (.slice (some ⟨w.heap.size, 0, none⟩) 0 0) 0 [] := World.ownsRow_made w #[] 0 (Nat.le_refl _) (Nat.zero_le _) rfl
    go_enter Try.func19, Try.ntmps19
    go_wp2_with (at_builtin; refine wpList_append_own _ rfl _ _ 32 rfl w.heap.size 47 i0 (.agg #[.int .i64 0, .string .empty, .bool false]) 3 32 Try.underlying32 hi hz0 hz1 hz2 rfl (by decide) _ _ _ rfl hown ad n cap (rowVals (fE A S D) n) rfl ?c0 ?c1 ?c2 ?c3 ?c4 ?c5 ?_)
    case c0 => exact unhide HL
    case c1 => exact unhide HN
    case c2 => exact rv_one (len_E A S D) (by decide) (one_E A S D) n
    case c3 => unfold maxLen; omega
    case c4 => omega
    case c5 => simp
    intro v' w' hown' hgrow _
    go_wp2
    go_ret
    refine ⟨_, rfl, ?_, ?_⟩
    · simpa using hown'
    · exact hB.grown hgrow (by simp) (fun k hk => by simp [Value.ownBlock] at hk; omega)
end Go.Proofs.Ytbahnkomdndmkab
