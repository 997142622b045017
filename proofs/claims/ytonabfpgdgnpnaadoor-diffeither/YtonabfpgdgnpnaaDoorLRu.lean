/- A text as code points in a slice. -/
import Derived.Test.YtonabfpgdgnpnaaDoorAwk
import Derived.Laws.IdiomStrings
import Derived.Laws.Cover4
namespace Go.Proofs.YtonabfpgdgnpnaaDoor
set_option linter.unusedVariables false
set_option linter.unusedSimpArgs false
open Go.ChangeShapes Go.WideShapes Go.ChangeAt Go.RowKit Go.Joins Go.Deep

/-- the number of a code point -/
def rn (c : List UInt8) : Nat := (Lib.decodeL c).1
def rnv (cs : List (List UInt8)) : List Value := cs.map (fun c => .int .i32 (rn c : Int))
theorem rnv_len (cs : List (List UInt8)) : (rnv cs).length = cs.length := by simp [rnv]
theorem rn_at {s : ByteArray} {cs : List (List UInt8)} (h : Tx s cs) {n : Nat} {c : List UInt8} (hc : cs[n]? = some c) : (Utf8.decode s (placeOf cs n)).1 = rn c := by
  have hn := (List.getElem?_eq_some_iff.1 hc).1
  have hd := drop_place h n
  have e : cs.drop n = c :: cs.drop (n + 1) := by
    rw [List.drop_eq_getElem_cons hn]
    rw [(List.getElem?_eq_some_iff.1 hc).2]
  have hcp := h.cps c (List.mem_of_getElem? hc)
  rw [← Lib.decodeL_drop, hd, e, List.flatten_cons, hcp.front]
  rfl
theorem runes_from {s : ByteArray} {cs : List (List UInt8)} (h : Tx s cs) : ∀ (k n bound : Nat) (acc : Array Value), k + n = cs.length → k ≤ bound → Conv.runesFrom s bound (placeOf cs n) acc = acc ++ (rnv (cs.drop n)).toArray
  | 0, n, bound, acc, hk, hb => by
    have e : cs.drop n = [] := List.drop_of_length_le (by omega)
    have hp : ¬ placeOf cs n < s.size := by
      have h1 := congrArg List.length (drop_place h n)
      rw [e, List.length_drop, ← Lib.size_eq] at h1
      simp at h1
      omega
    rw [e]
    cases bound with
    | zero => simp [Conv.runesFrom, rnv]
    | succ b => unfold Conv.runesFrom; rw [if_neg hp]; simp [rnv]
  | k + 1, n, bound, acc, hk, hb => by
    obtain ⟨b, rfl⟩ : ∃ b, bound = b + 1 := ⟨bound - 1, by omega⟩
    have hn : n < cs.length := by omega
    obtain ⟨c, hc⟩ : ∃ c, cs[n]? = some c := ⟨_, List.getElem?_eq_getElem hn⟩
    obtain ⟨h1, h2⟩ := placeOf_next h hn
    have e : cs.drop n = c :: cs.drop (n + 1) := by
      rw [List.drop_eq_getElem_cons hn]
      rw [(List.getElem?_eq_some_iff.1 hc).2]
    unfold Conv.runesFrom
    rw [if_pos h2]
    simp only
    rw [← h1, runes_from h k (n + 1) b _ (by omega) (by omega), e, rn_at h hc]
    simp [rnv]
theorem runes_eq {s : ByteArray} {cs : List (List UInt8)} (h : Tx s cs) : Conv.runesFrom s s.size 0 #[] = (rnv cs).toArray := by
  have h1 := runes_from h cs.length 0 s.size #[] (by omega) (by rw [h.size]; exact h.cps.len)
  rw [placeOf_zero] at h1
  rw [h1]
  simp
def TRunR (s : ByteArray) (most : Int) (w : World) (r : Ending) (w' : World) : Prop := (Lib.validD s.data.toList = false ∧ r = .returned (.tuple #[.slice none 0 0, .int .i64 21]) ∨ ∃ cs, Tx s cs ∧ (most < (cs.length : Int) ∧ r = .returned (.tuple #[.slice none 0 0, .int .i64 4]) ∨ (cs.length : Int) ≤ most ∧ ∃ v, r = .returned (.tuple #[v, .int .i64 0]) ∧ w'.ownsRow w.heap.size 21 1 v cs.length (rnv cs) ∧ ∃ g c, v = .slice (some ⟨g, 0, none⟩) cs.length c)) ∧ Below w.heap.size w w'
theorem runes_own (w : World) {s : ByteArray} {cs : List (List UInt8)} (h : Tx s cs) (hs : s.size ≤ 70368744177664) : ∃ v w', (convert 9 54 (.string s)).run Tryd.prog w = .ok v w' ∧ w'.ownsRow w.heap.size 21 1 v cs.length (rnv cs) ∧ (∃ g c, v = .slice (some ⟨g, 0, none⟩) cs.length c) ∧ Below w.heap.size w w' := by
  have hfew : cs.length ≤ s.size := by have := h.cps.len; rw [← h.size] at this; exact this
  have e := run_runes_of_string (P := Tryd.prog) w 9 54 21 s Tryd.underlying9 Tryd.underlying54 Tryd.underlying21 (by rw [runes_eq h]; simp [rnv]; omega)
  rw [runes_eq h] at e
  have hsz : (rnv cs).toArray.size = cs.length := by simp [rnv]
  have hge := grownCap_ge w cs.length 0 21
  have hle := grownCap_le_maxLen w cs.length 0 21 (by unfold maxLen; omega)
  rw [hsz] at e
  generalize hK : grownCap w cs.length 0 21 = K at e hge hle
  refine ⟨_, _, e, ⟨by rw [rnv_len]; simp, .inr ⟨w.heap.size, K, (rnv cs).toArray ++ Array.replicate (K - cs.length) (.int .i32 0), rfl, Nat.le_refl _, ?_, hge, hle, by simp [rnv]; omega, by simp [rnv_len]⟩⟩, ⟨_, _, rfl⟩, (Below.drew (Below.refl _ _)).alloc (by show w.heap.size ≤ w.heap.size; exact Nat.le_refl _) _⟩
  exact RowAt.new w.drew 21 ((rnv cs).toArray ++ Array.replicate (K - cs.length) (Value.int .i32 0)).toList
set_option maxRecDepth 100000 in
set_option maxHeartbeats 4000000 in
theorem trunes_any (s : ByteArray) (most : Int) (w : World) (hT : UT w) (hs : s.size ≤ 70368744177664) : Calls Tryd.prog 50 #[.string s, .int .i64 most] w fun r w' => TRunR s most w r w' := by
  have KV := hide (valid_any s w hT (by omega))
  have KC := hide (fun W => counts_any s W (by omega))
  cases hv : Lib.validD s.data.toList with
  | false =>
    rw [hv] at KV
    have hv' := hv
    clear hv
    go_enter Tryd.func50, Tryd.ntmps50
    go_wp2_with fail
    refine Calls.mono (unhide KV) ?_
    rintro r w1 ⟨rfl, b1⟩
    have B1 := hide b1
    clear b1
    go_wp2_with fail
    go_ret2
    exact ⟨.inl ⟨hv', rfl⟩, unhide B1⟩
  | true =>
    obtain ⟨cs, hx⟩ := tx_of_valid hv
    rw [hv] at KV
    rw [hx.count] at KC
    have HX := hide hx
    have hfew : cs.length ≤ s.size := by have := hx.cps.len; rw [← hx.size] at this; exact this
    have HF := hide (And.intro hfew hs)
    obtain ⟨n, hn⟩ : ∃ n, cs.length = n := ⟨_, rfl⟩
    rw [hn] at KC
    have HN := hide hn
    clear hv hx hfew hs hn hT
    go_enter Tryd.func50, Tryd.ntmps50
    go_wp2_with fail
    refine Calls.mono (unhide KV) ?_
    rintro r w1 ⟨rfl, b1⟩
    have B1 := hide b1
    clear b1
    go_wp2_with fail
    refine Calls.mono (unhide KC _) ?_
    rintro r w2 ⟨rfl, b2⟩
    have B2 := hide ((unhide B1).trans (b2.mono (unhide B1).size))
    clear b2
    by_cases hm : most < (n : Int)
    · go_wp2_with fail
      go_ret2
      exact ⟨.inr ⟨cs, unhide HX, .inl ⟨by rw [unhide HN]; exact hm, rfl⟩⟩, unhide B2⟩
    · obtain ⟨v, w3, e, ho, hsm, b3⟩ := runes_own w2 (unhide HX) (unhide HF).2
      have B3 := hide ((unhide B2).trans (b3.mono (unhide B2).size))
      have HO := hide (And.intro (own_base ho (unhide B2).size) hsm)
      clear ho b3 hsm
      go_wp2_with fail
      go_ret2
      exact ⟨.inr ⟨cs, unhide HX, .inr ⟨by rw [unhide HN]; omega, v, rfl, unhide HO⟩⟩, unhide B3⟩
end Go.Proofs.YtonabfpgdgnpnaaDoor
