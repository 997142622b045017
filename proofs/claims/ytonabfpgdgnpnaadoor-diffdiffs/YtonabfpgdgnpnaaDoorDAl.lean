/- The document's Check of several, and its code points. -/
import Derived.Test.YtonabfpgdgnpnaaDoorDCk
import Derived.Lib.OthersKept
import Derived.Lib.MapLaws
import Derived.Deep.AppendLies
namespace Go.Proofs.YtonabfpgdgnpnaaDoor
set_option linter.unusedVariables false
set_option linter.unusedSimpArgs false
open Go.ChangeShapes Go.WideShapes Go.ChangeAt Go.RowKit Go.Joins Go.Deep

theorem infoRu : ∃ i, Tryd.prog.info? 21 = some i ∧ i.zero = some (.int .i32 0) ∧ i.size = 1 ∧ i.bytes = 4 := info_parts (by kernel_rfl)
theorem placeOf_lt {cs : List (List UInt8)} (h : Cps cs) {i : Nat} (hi : i < cs.length) : placeOf cs i < placeOf cs (i + 1) := by
  unfold placeOf
  rw [List.take_add_one, List.getElem?_eq_getElem hi, List.flatten_append, List.length_append]
  have := List.length_pos_iff.2 (h _ (List.getElem_mem hi)).ne
  simp only [Option.toList_some, List.flatten_cons, List.flatten_nil, List.append_nil]
  omega
theorem dec_wide (s : ByteArray) {p : Nat} (h : p < s.size) : 1 ≤ (Utf8.decode s p).2 ∧ p + (Utf8.decode s p).2 ≤ s.size := by
  rw [Lib.decode_N]
  have hl : s.data.toList.length = s.size := by rw [Lib.size_eq]
  have := decN_width (s.data.toList.length - p) (s.data.toList.getD p 0).toNat (s.data.toList.getD (p + 1) 0).toNat (s.data.toList.getD (p + 2) 0).toNat (s.data.toList.getD (p + 3) 0).toNat (by omega)
  omega
/-- what stands behind a text's beginning, as code points -/
def Upto (s : ByteArray) (p : Nat) (l : List Value) : Prop := ∀ cs, Tx s cs → ∃ i, i ≤ cs.length ∧ p = placeOf cs i ∧ l = rnv (cs.take i)
theorem Upto.start (s : ByteArray) : Upto s 0 [] := fun cs _ => ⟨0, by omega, by rw [placeOf_zero], rfl⟩
theorem Upto.next {s : ByteArray} {p : Nat} {l : List Value} (h : Upto s p l) (hp : p < s.size) : Upto s (p + (Utf8.decode s p).2) (l ++ [.int .i32 ((Utf8.decode s p).1 : Int)]) := fun cs hx => by
  obtain ⟨i, hi, rfl, rfl⟩ := h cs hx
  have hlt : i < cs.length := by
    rcases Nat.lt_or_eq_of_le hi with h1 | h1
    · exact h1
    · exfalso
      rw [hx.size, h1] at hp
      unfold placeOf at hp
      rw [List.take_length] at hp
      omega
  refine ⟨i + 1, hlt, (placeOf_next hx hlt).1.symm, ?_⟩
  have hc : cs[i]? = some cs[i] := List.getElem?_eq_getElem hlt
  rw [List.take_add_one, hc, rn_at hx hc]
  unfold rnv
  rw [List.map_append]
  rfl
theorem Upto.ends {s : ByteArray} {p : Nat} {l : List Value} (h : Upto s p l) (hp : ¬ p < s.size) {cs : List (List UInt8)} (hx : Tx s cs) : l = rnv cs := by
  obtain ⟨i, hi, rfl, rfl⟩ := h cs hx
  rcases Nat.lt_or_eq_of_le hi with h1 | h1
  · exact absurd (placeOf_next hx h1).2 hp
  · rw [h1, List.take_length]
structure ChI (w wr : World) (s : ByteArray) (p n : Nat) (v : Value) (l : List Value) : Prop where
  it : wr.heap[w.heap.size]? = some (.stringIter s p)
  own : wr.ownsRow w.heap.size 21 1 v n l
  bel : Below w.heap.size w wr
  up : Upto s p l
  le : n ≤ p
  ps : p ≤ s.size
theorem ChI.pos {w wr : World} {s : ByteArray} {p n : Nat} {v : Value} {l : List Value} (h : ChI w wr s p n v l) : wr.iterPos w.heap.size = p := by unfold World.iterPos; rw [h.it]
theorem own_it {w : World} {B n : Nat} {v : Value} {l : List Value} (h : w.ownsRow B 21 1 v n l) {k : Nat} {s : ByteArray} {pos : Nat} (hk : w.heap[k]? = some (.stringIter s pos)) : v.ownBlock ≠ some k := by
  intro e
  rcases h.2 with ⟨rfl, _⟩ | ⟨g, c, cur, rfl, _, e', _⟩
  · cases e
  · obtain rfl : g = k := by simpa [Value.ownBlock] using e
    rw [hk] at e'
    cases e'
theorem ChI.next {w wr : World} {s : ByteArray} {p n : Nat} {v : Value} {l : List Value} (h : ChI w wr s p n v l) :
    (wr.iterAt w.heap.size s (p + (Utf8.decode s p).2)).heap[w.heap.size]? = some (.stringIter s (p + (Utf8.decode s p).2)) ∧ (wr.iterAt w.heap.size s (p + (Utf8.decode s p).2)).ownsRow w.heap.size 21 1 v n l ∧ Below w.heap.size w (wr.iterAt w.heap.size s (p + (Utf8.decode s p).2)) := by
  refine ⟨Lib.iterAt_heap _ _ _ _ _ h.it, ?_, Lib.below_iterAt h.bel (Nat.le_refl _) _ _⟩
  have hne := own_it h.own h.it
  obtain ⟨h1, h2⟩ := h.own
  refine ⟨h1, ?_⟩
  rcases h2 with h2 | ⟨g, c, cur, e1, e2, e3, e4⟩
  · exact .inl h2
  · refine .inr ⟨g, c, cur, e1, e2, ?_, e4⟩
    rw [Lib.iterAt_other _ _ _ _ _ (fun e => hne (by rw [e1, e]; rfl))]
    exact e3
def RChR (s : ByteArray) (w : World) (r : Ending) (w' : World) : Prop := ∃ v n l, r = .returned v ∧ w'.ownsRow w.heap.size 21 1 v n l ∧ (∀ cs, Tx s cs → l = rnv cs ∧ n = cs.length) ∧ n ≤ s.size ∧ Below w.heap.size w w'
set_option maxRecDepth 100000 in
set_option maxHeartbeats 4000000 in
theorem rchars_any (s : ByteArray) (w : World) (hs : s.size ≤ 1099511627776) :
    Calls Tryd.prog 32 #[.string s] w fun r w' => RChR s w r w' := by
  go_enter Tryd.func32, Tryd.ntmps32
  go_wp2_with fail
  go_loopw [3] (fun v wr => ∃ (p n : Nat) (a : Option Addr) (c : Nat) (l : List Value), v = .slice a n c ∧ Hid (ChI w wr s p n v l)) (fun _ wr => s.size - wr.iterPos w.heap.size)
  case atStart =>
    exact ⟨0, 0, none, 0, [], rfl, hide ⟨World.iter_heap w s 0, World.ownsRow_nil _ _ _ _, (Below.refl _ _).alloc (Nat.le_refl _) (.stringIter s 0), Upto.start s, by omega, by omega⟩⟩
  case round =>
    obtain ⟨p, n, a, c, l, rfl, HC⟩ := hrel
    have HPO := hide (unhide HC).pos
    by_cases hlt : p < s.size
    · have hnx := Lib.run_next_any_at (P := Tryd.prog) wr w.heap.size s p 0 (unhide HC).it hlt
      have HNX := hide (unhide HC).next
      have HUP := hide (And.intro ((unhide HC).up.next hlt) (And.intro (dec_wide s hlt) (unhide HC).le))
      obtain ⟨q, hq⟩ : ∃ z, p + (Utf8.decode s p).2 = z := ⟨_, rfl⟩
      obtain ⟨wi, hwi⟩ : ∃ z, wr.iterAt w.heap.size s (p + (Utf8.decode s p).2) = z := ⟨_, rfl⟩
      rw [hwi] at hnx HNX
      rw [hq] at HNX HUP
      have HQ : Hid (p < q) := hide (by rw [← hq]; have := (dec_wide s hlt).1; omega)
      obtain ⟨rv, hrv⟩ : ∃ z, (Utf8.decode s p).1 = z := ⟨_, rfl⟩
      rw [hrv] at hnx HUP
      clear hwi hrv hq
      have hbA : Below wi.heap.size wi (wi.alloc (.cells #[.int .i32 (rv : Int)] 21)) := (Below.refl _ _).alloc (Nat.le_refl _) _
      have HOA := hide (own_call (unhide HNX).2.1 hbA)
      have HIA : Hid ((wi.alloc (.cells #[.int .i32 (rv : Int)] 21)).heap[w.heap.size]? = some (.stringIter s q)) := hide (by rw [hbA.block _ (Array.getElem?_eq_some_iff.1 (unhide HNX).1).1]; exact (unhide HNX).1)
      have HBA := hide ((unhide HNX).2.2.trans (hbA.mono (unhide HNX).2.2.size))
      have HRA := hide (RowAt.new wi 21 [.int .i32 (rv : Int)])
      have hn1 : n ≤ 1099511627776 := by have := (unhide HC).le; omega
      clear hbA HC HNX
      go_wp2_with (at_builtin; refine unhide ?_)
      obtain ⟨i9, hi9, hz9, hs9, hb9⟩ := infoRu
      refine hide ?_
      refine wpList_append_own_at _ rfl _ _ 54 rfl w.heap.size 21 i9 (.int .i32 0) 1 4 Tryd.underlying54 hi9 hz9 hs9 hb9 rfl (by decide) (.slice a n c) n l rfl (unhide HOA) ⟨wi.heap.size, 0, none⟩ 1 1 [.int .i32 (rv : Int)] rfl rfl (fun j u hj => by
        match j, hj with
        | 0, hj =>
          obtain rfl : (.int .i32 (rv : Int) : Value) = u := by simpa using hj
          exact (unhide HRA).cell 0) (fun u hu => by rw [List.mem_singleton] at hu; rw [hu]; rfl) (by unfold maxLen; omega) (by omega) (unhide HBA).size ?_
      intro v' w3 hv hgr _ _
      have ho := grown_only hgr
      obtain ⟨a3, c3, rfl, _, _⟩ := own_sl hv
      have HO3 := hide hv
      have hne := own_it (unhide HOA) (unhide HIA)
      have HI3 : Hid (w3.heap[w.heap.size]? = some (.stringIter s q)) := hide (by rw [ho.block _ (Array.getElem?_eq_some_iff.1 (unhide HIA)).1 hne]; exact unhide HIA)
      have HB3 := hide ((unhide HBA).trans (ho.below (unhide HBA).size (fun k hk => ((unhide HOA).lt k hk).1)))
      clear hv ho hgr HOA HIA HBA HRA hne hnx i9 hi9 hz9 hs9 hb9
      go_wp2_with fail
      refine ⟨⟨q, n + 1, a3, c3, _, rfl, hide ⟨unhide HI3, unhide HO3, unhide HB3, (unhide HUP).1, by have := (unhide HUP).2.2; have := unhide HQ; omega, (unhide HUP).2.1.2⟩⟩, ?_⟩
      have p3 : w3.iterPos w.heap.size = q := by unfold World.iterPos; rw [unhide HI3]
      rw [p3, unhide HPO]
      have := unhide HQ
      omega
    · have hnx := Lib.run_next_end_at (P := Tryd.prog) wr w.heap.size s p 0 (unhide HC).it hlt
      have HE : Hid (∀ cs, Tx s cs → l = rnv cs ∧ n = cs.length) := hide (fun cs hx => by
        have e := (unhide HC).up.ends hlt hx
        refine ⟨e, ?_⟩
        have h1 := (unhide HC).own.1
        rw [e, rnv_len] at h1
        omega)
      have HNS : Hid (n ≤ s.size) := hide (Nat.le_trans (unhide HC).le (unhide HC).ps)
      have HO1 := hide (unhide HC).own
      have HK1 := hide (unhide HC).bel
      clear HC HPO
      go_wp2_with fail
      go_ret
      exact ⟨_, _, _, rfl, unhide HO1, unhide HE, unhide HNS, unhide HK1⟩
set_option maxRecDepth 100000 in
set_option maxHeartbeats 4000000 in
theorem rall_any (B : Nat) (v : Value) (l : List ByteArray) (w : World) (h : w.ownsRow B 9 1 v l.length (l.map .string)) (hl : l.length ≤ 1000) (hs : ∀ s ∈ l, s.size ≤ 1099511627776) : Calls Tryd.prog 31 #[v] w fun r w' => r = .returned (.int .i64 (firstE l)) ∧ Below w.heap.size w w' := by
  obtain ⟨a, c, rfl, hc, hcm⟩ := own_sl h
  have HO := hide h
  obtain ⟨n, hn⟩ : ∃ z, l.length = z := ⟨_, rfl⟩
  have HN := hide hn
  rw [hn] at HO hl hc ⊢
  clear h hn
  go_enter Tryd.func31, Tryd.ntmps31
  go_wp2_with fail
  go_loopw [8] (fun iv wr => ∃ k : Nat, k ≤ n ∧ iv = .int .i64 (k : Int) ∧ Hid (AllOk l k) ∧ Hid (Below w.heap.size w wr)) (fun iv _ => ((n : Int) - intOf iv).toNat)
  case atStart => exact ⟨0, by omega, by simp, hide (AllOk.zero l), hide (Below.refl _ _)⟩
  case round =>
    obtain ⟨k, hk, rfl, HA, HB⟩ := hrel
    by_cases c1 : (k : Int) < (n : Int)
    · obtain ⟨s, hsk⟩ : ∃ s, l[k]? = some s := ⟨_, List.getElem?_eq_getElem (by rw [unhide HN]; omega)⟩
      obtain ⟨g, cg, e, hcell, _, _, _⟩ := own_rd (own_call (unhide HO) (unhide HB)) (show (l.map Value.string)[k]? = some (.string s) by simp [hsk])
      injection e with e1 _ e3
      subst e1 e3
      have KC := hide (rchk_any s wr (hs s (List.mem_of_getElem? hsk)))
      have HS := hide hsk
      have k0 : (0 : Int) ≤ (k : Int) := by omega
      obtain ⟨u, hu⟩ : ∃ z, chkE s = z := ⟨_, rfl⟩
      have HUU := hide hu
      rw [hu] at KC
      clear hsk hu
      go_wp2_with fail
      refine Calls.mono (unhide KC) ?_
      rintro r w2 ⟨rfl, b2⟩
      have B2 := hide ((unhide HB).trans (b2.mono (unhide HB).size))
      clear b2 KC
      by_cases hu0 : u = 0
      · subst hu0
        have HA2 := hide ((unhide HA).next (unhide HS) (unhide HUU))
        go_wp2_with fail
        exact ⟨⟨k + 1, by omega, by simp, HA2, B2⟩, by simp [intOf]; omega⟩
      · have hf : firstE l = u := (first_at (unhide HA) (unhide HS) (by rw [unhide HUU]; exact hu0)).trans (unhide HUU)
        have HF := hide hf
        clear hf
        go_wp2_with fail
        go_ret
        exact ⟨by rw [unhide HF]; rfl, unhide B2⟩
    · obtain rfl : n = k := by omega
      have HF := hide (first_all (l := l) (by rw [unhide HN]; exact unhide HA))
      go_wp2_with fail
      go_ret
      exact ⟨by rw [unhide HF]; rfl, unhide HB⟩
end Go.Proofs.YtonabfpgdgnpnaaDoor
