/- Find. -/
import Derived.Test.YtdnbhomjfgpcfaaDoorLPl
namespace Go.Proofs.YtdnbhomjfgpcfaaDoor
set_option linter.unusedVariables false
set_option linter.unusedSimpArgs false
open Go.ChangeShapes Go.WideShapes Go.ChangeAt Go.RowKit Go.Joins Go.Deep

theorem rnv_riv (cs : List (List UInt8)) : rnv cs = riv (rni cs) := by simp [rnv, riv, rni]
theorem rni_len (cs : List (List UInt8)) : (rni cs).length = cs.length := by simp [rni]
def occL (cp cs : List (List UInt8)) : List Nat := occ (rni cp) (rni cs) cs.length
def FindR (s : ByteArray) (cs : List (List UInt8)) (w : World) (r : Ending) (w' : World) : Prop := (Lib.validD s.data.toList = false ∧ r = .returned (.tuple #[.slice none 0 0, .int .i64 21]) ∨ ∃ cp, Tx s cp ∧ (cp = [] ∧ r = .returned (.tuple #[.slice none 0 0, .int .i64 1]) ∨ cp ≠ [] ∧ ∃ v, r = .returned (.tuple #[v, .int .i64 0]) ∧ w'.ownsRow w.heap.size 3 1 v (occL cp cs).length (nsv (occL cp cs)))) ∧ Below w.heap.size w w'
set_option maxRecDepth 100000 in
set_option maxHeartbeats 4000000 in
theorem find_ok {w : World} {B g : Nat} {vr vs : Value} {cs : List (List UInt8)} (h : Ix w B g vr vs cs) (s : ByteArray) (hT : UT w) (hl : cs.length ≤ 1099511627776) (hs : s.size ≤ 1099511627776) : Calls Tryd.prog 29 #[.pointer (some ⟨g, 0, none⟩), .string s] w fun r w' => FindR s cs w r w' := by
  obtain ⟨ar, cr, as_, c_, e1, e2, q0, q1⟩ := h.two
  have KM := hide (made_ok g w as_ _ c_ q1 (sts_pos cs))
  have KT := hide (trunes_any s 9223372036854775807 w hT (by omega))
  have HIX := hide h
  have HE1 := hide e1
  clear h e1 e2 q1 hT
  go_enter Tryd.func29, Tryd.ntmps29
  go_wp2_with fail
  refine Calls.mono (unhide KM) ?_
  rintro r w1 ⟨rfl, rfl⟩
  go_wp2_with fail
  refine Calls.mono (unhide KT) ?_
  rintro r w2 ⟨h2, b2⟩
  have B2 := hide b2
  have hI2 := (unhide HIX).call b2
  clear b2 q0 KT
  rcases h2 with ⟨hv, rfl⟩ | ⟨cp, hx, ⟨h2, rfl⟩ | ⟨h2, v, rfl, ho, -⟩⟩
  · clear hI2
    go_wp2_with fail
    go_ret2
    exact ⟨.inl ⟨hv, rfl⟩, unhide B2⟩
  · exfalso
    have := hx.cps.len
    rw [← hx.size] at this
    omega
  · have hfew : cp.length ≤ 1099511627776 := by have := hx.cps.len; rw [← hx.size] at this; omega
    obtain ⟨ap, c3, rfl, hc1, hc2⟩ := own_sl ho
    have HX := hide hx
    by_cases h0 : cp = []
    · have hn : cp.length = 0 := by rw [h0]; rfl
      rw [hn] at ho hc1 ⊢
      clear hI2 ho hx
      go_wp2_with fail
      go_ret2
      exact ⟨.inr ⟨cp, unhide HX, .inl ⟨h0, rfl⟩⟩, unhide B2⟩
    · have hpos := List.length_pos_iff.2 h0
      have hr2 := hI2.r
      have q0 := hI2.row.cell 0
      simp only [List.getElem?_cons_zero] at q0
      rw [rnv_riv] at ho hr2
      have KP := hide (places_any _ _ cp.length cs.length _ vr (rni cp) (rni cs) w2 hr2 ho hpos hfew hl)
      rw [unhide HE1] at q0 KP
      obtain ⟨n, hn⟩ : ∃ n, cp.length = n := ⟨_, rfl⟩
      rw [hn] at hpos hfew hc1 KP ⊢
      have hn0 : ((n : Int) == 0) = false := by simp; omega
      have H0 := hide h0
      clear hI2 ho hx hr2 hn h0
      go_wp2_with fail
      refine Calls.mono (unhide KP) ?_
      rintro r w3 ⟨v3, rfl, ho3, b3⟩
      rw [rni_len] at ho3
      obtain ⟨a3, c4, rfl, _, _⟩ := own_sl ho3
      have HO := hide (own_base ho3 (unhide B2).size)
      have B3 := hide ((unhide B2).trans (b3.mono (unhide B2).size))
      obtain ⟨ol, hol⟩ : ∃ z, (occ (rni cp) (rni cs) cs.length).length = z := ⟨_, rfl⟩
      rw [hol] at HO ⊢
      have HOL := hide hol
      clear ho3 b3 hol KP
      go_wp2_with fail
      go_ret2
      exact ⟨.inr ⟨cp, unhide HX, .inr ⟨unhide H0, _, rfl, by unfold occL; rw [unhide HOL]; exact unhide HO⟩⟩, unhide B3⟩
end Go.Proofs.YtdnbhomjfgpcfaaDoor
