/- Edits of few code points: the law's narrow, and what it tells. -/
import Derived.Test.YtidblnjohkadhaaDoorLgt
import Derived.Test.YtidblnjohkadhaaDoorRsz
namespace Go.Proofs.YtidblnjohkadhaaDoor
set_option linter.unusedVariables false
set_option linter.unusedSimpArgs false
open Go.ChangeShapes Go.WideShapes Go.ChangeAt Go.RowKit Go.Joins Go.Deep

def NaR (es : List Ev) (r : Ending) : Prop := ∃ b, r = .returned (.bool b) ∧ (b = true → (∀ e ∈ es, e.l.length ≤ 200) ∧ wtS es ≤ 4096 ∧ ∀ e ∈ es, ∀ f t k, sizeL e.l = some (f, t, k) → f ≤ 400 ∧ t ≤ 400)
set_option maxRecDepth 100000 in
set_option maxHeartbeats 4000000 in
theorem narrow2_any (g : Nat) (es : List Ev) (w : World) (hr : RowAt w g 22 (es.map ev)) (hp : ∀ e ∈ es, PtsAt w e.a e.l) (hl : ∀ e ∈ es, e.l.length ≤ maxLen) (hs : ∀ e ∈ es, ∀ p ∈ e.l, p.text.size ≤ 281474976710656) (hn : es.length ≤ 1000) :
    Calls Tryd.prog 43 #[.slice (some ⟨g, 0, none⟩) es.length es.length] w fun r w' => NaR es r ∧ Below w.heap.size w w' := by
  have HLT : Hid (∀ W, Below w.heap.size w W → Calls Tryd.prog 21 #[.slice (some ⟨g, 0, none⟩) es.length es.length] W fun r w' => LgR es r ∧ Below W.heap.size W w') := hide (fun W h => light_any g es W (hr.below h hr.lt) (fun e he => (hp e he).call h) hl hn)
  have HRS : Hid (∀ e ∈ es, ∀ W, Below w.heap.size w W → Calls Tryd.prog 24 #[.slice e.a e.l.length e.c] W fun r w' => r = .returned (szVal e.l) ∧ Below W.heap.size W w') := hide (fun e he W h => rsize_any e.a e.l e.c W ((hp e he).call h) (hl e he) (hs e he))
  obtain ⟨n, hnn⟩ : ∃ n, es.length = n := ⟨_, rfl⟩
  rw [hnn] at hn HLT ⊢
  have HN := hide hnn
  have HR := hide hr
  clear hr hp hl hnn hs
  go_enter Tryd.func43, Tryd.ntmps43
  go_wp2_with fail
  go_loopw [10] (fun i wr => ∃ k : Nat, k ≤ n ∧ i = .int .i64 (k : Int) ∧ Hid (∀ e ∈ es.take k, ∀ f t k, sizeL e.l = some (f, t, k) → f ≤ 400 ∧ t ≤ 400) ∧ Hid (Below w.heap.size w wr)) (fun i _ => ((n : Int) - intOf i).toNat)
  case atStart => exact ⟨0, by omega, by simp, hide (by simp), hide (Below.refl _ _)⟩
  case round =>
    obtain ⟨k, hk, rfl, HQ, HB⟩ := hrel
    by_cases hlt : k < n
    · have kI : (k : Int) < (n : Int) := by omega
      obtain ⟨e, he⟩ : ∃ e, es[k]? = some e := ⟨_, List.getElem?_eq_getElem (by have := unhide HN; omega)⟩
      have c0 : wr.cell? ⟨g, k, none⟩ = some (.slice e.a e.l.length e.c) := by
        have h := ((unhide HR).below (unhide HB) (unhide HR).lt).cell k
        rw [List.getElem?_map, he] at h
        exact h
      have HC := hide (unhide HRS e (List.mem_of_getElem? he) wr (unhide HB))
      have HE := hide he
      clear he
      obtain ⟨ln, hln⟩ : ∃ z, e.l.length = z := ⟨_, rfl⟩
      rw [hln] at c0 HC
      clear hln
      go_wp2_with fail
      refine Calls.mono (unhide HC) ?_
      rintro r w2 ⟨rfl, hb2⟩
      have HB2 := hide ((unhide HB).trans (hb2.mono (unhide HB).size))
      clear hb2 HC c0
      have HQ2 : Hid ((∀ f t k, sizeL e.l = some (f, t, k) → f ≤ 400 ∧ t ≤ 400) → ∀ e ∈ es.take (k + 1), ∀ f t k, sizeL e.l = some (f, t, k) → f ≤ 400 ∧ t ≤ 400) := hide (fun hh e' he' => by
        rw [List.take_add_one, unhide HE] at he'
        rcases List.mem_append.1 he' with h1 | h1
        · exact unhide HQ e' h1
        · obtain rfl : e' = e := by simpa using h1
          exact hh)
      unfold szVal
      cases hz : sizeL e.l with
      | none =>
        have HQ3 := hide (unhide HQ2 (fun f t k h => by rw [hz] at h; cases h))
        clear hz
        simp only
        go_wp2_with fail
        exact ⟨⟨k + 1, by omega, by simp, HQ3, HB2⟩, by simp [intOf]; omega⟩
      | some x =>
        obtain ⟨f, t, x3⟩ := x
        have HZ := hide hz
        clear hz
        simp only
        by_cases h1 : 400 < f
        · go_wp2_with fail
          go_ret
          exact ⟨⟨false, rfl, fun h => by cases h⟩, unhide HB2⟩
        · by_cases h2 : 400 < t
          · go_wp2_with fail
            go_ret
            exact ⟨⟨false, rfl, fun h => by cases h⟩, unhide HB2⟩
          · have HQ3 := hide (unhide HQ2 (fun f' t' k' h => by rw [unhide HZ] at h; simp only [Option.some.injEq, Prod.mk.injEq] at h; omega))
            go_wp2_with fail
            exact ⟨⟨k + 1, by omega, by simp, HQ3, HB2⟩, by simp [intOf]; omega⟩
    · obtain rfl : n = k := by omega
      have kI : ¬ (n : Int) < (n : Int) := by omega
      go_wp2_with fail
      refine Calls.mono (unhide HLT _ (unhide HB)) ?_
      rintro r w2 ⟨⟨b_, rfl, hlb⟩, hb2⟩
      have HB2 := hide ((unhide HB).trans (hb2.mono (unhide HB).size))
      have HLB := hide hlb
      clear hb2 hlb
      go_wp2_with fail
      go_ret
      exact ⟨⟨b_, rfl, fun h => ⟨(unhide HLB h).1, (unhide HLB h).2, by have := unhide HQ; rw [List.take_of_length_le (by rw [unhide HN]; exact Nat.le_refl _)] at this; exact this⟩⟩, unhide HB2⟩
end Go.Proofs.YtidblnjohkadhaaDoor
