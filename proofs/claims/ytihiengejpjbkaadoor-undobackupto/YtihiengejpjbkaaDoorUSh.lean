/- Calls that are few and small. -/
import Derived.Test.YtihiengejpjbkaaDoorUAw
namespace Go.Proofs.YtihiengejpjbkaaDoor
set_option linter.unusedVariables false
set_option linter.unusedSimpArgs false
open Go.ChangeShapes Go.WideShapes Go.ChangeAt Go.RowKit Go.Joins Go.Deep

structure Dl where
  op : Int
  n : Int
  a : Option Addr
  l : List Pt
  c : Nat
def Dl.cs (d : Dl) : List Value := [.int .i64 d.op, .int .i64 d.n, .slice d.a d.l.length d.c]
def Dos (w : World) (a : Option Addr) (L : List Dl) : Prop :=
  (∀ d ∈ L, Edit w d.a d.l d.c) ∧ (L = [] ∨ ∃ b off, a = some ⟨b, off, none⟩ ∧ b < w.heap.size ∧ ∀ (i : Nat) (d : Dl), L[i]? = some d → ∀ f u, d.cs[f]? = some u → w.cell? ⟨b, off + i * 3 + f, none⟩ = some u)
theorem Dos.call {w w1 : World} {a : Option Addr} {L : List Dl} (h : Dos w a L) (hb : Below w.heap.size w w1) : Dos w1 a L := by
  refine ⟨fun d hd => (h.1 d hd).call hb, ?_⟩
  rcases h.2 with h | ⟨b, off, e, hlt, hx⟩
  · exact .inl h
  · exact .inr ⟨b, off, e, Nat.lt_of_lt_of_le hlt hb.size, fun i d hd f u hu => by rw [hb.cell (p := ⟨b, off + i * 3 + f, none⟩) hlt]; exact hx i d hd f u hu⟩
/-- how much text -/
def tx (l : List Pt) : Int := (l.map (fun p => min (p.text.size : Int) 600)).sum
def txS (L : List Dl) : Int := (L.map (fun d => tx d.l)).sum
theorem tx_take {l : List Pt} {i : Nat} {p : Pt} (h : l[i]? = some p) : tx (l.take (i + 1)) = tx (l.take i) + min (p.text.size : Int) 600 := by
  unfold tx
  rw [List.take_add_one, h]
  simp
theorem txS_take {L : List Dl} {i : Nat} {d : Dl} (h : L[i]? = some d) : txS (L.take (i + 1)) = txS (L.take i) + tx d.l := by
  unfold txS
  rw [List.take_add_one, h]
  simp
theorem tx_pos : ∀ l : List Pt, 0 ≤ tx l
  | [] => by simp [tx]
  | p :: r => by
    have h := tx_pos r
    unfold tx at h ⊢
    rw [List.map_cons, List.sum_cons]
    omega
theorem txS_pos : ∀ L : List Dl, 0 ≤ txS L
  | [] => by simp [txS]
  | d :: r => by
    have h := txS_pos r
    have h2 := tx_pos d.l
    unfold txS at h ⊢
    rw [List.map_cons, List.sum_cons]
    omega
theorem tx_mem : ∀ {L : List Dl} {d : Dl}, d ∈ L → tx d.l ≤ txS L
  | e :: r, d, h => by
    have h0 := txS_pos r
    have h1 := tx_pos e.l
    unfold txS at *
    rw [List.map_cons, List.sum_cons]
    rcases List.mem_cons.1 h with rfl | h
    · omega
    · have := tx_mem h
      unfold txS at this
      omega
def ShR (s : ByteArray) (L : List Dl) (r : Ending) : Prop := ∃ b, r = .returned (.bool b) ∧ (b = true → s.size ≤ 600 ∧ L.length ≤ 120 ∧ (∀ d ∈ L, d.l.length ≤ 100) ∧ min (s.size : Int) 601 + txS L ≤ 600)
theorem ShR.no (s : ByteArray) (L : List Dl) : ShR s L (.returned (.bool false)) := ⟨false, rfl, fun h => by cases h⟩
set_option maxRecDepth 100000 in
set_option maxHeartbeats 4000000 in
theorem short_any (s : ByteArray) (a : Option Addr) (L : List Dl) (cap : Nat) (w : World) (hD : Dos w a L) (hc : L.length ≤ cap) (hm : cap ≤ maxLen) :
    Calls Tryd.prog 10 #[.string s, .slice a L.length cap] w fun r w' => ShR s L r ∧ Below w.heap.size w w' := by
  obtain ⟨n, hn⟩ : ∃ n, L.length = n := ⟨_, rfl⟩
  obtain ⟨sz, hsz⟩ : ∃ z, s.size = z := ⟨_, rfl⟩
  obtain ⟨ms, hms⟩ : ∃ z, min (sz : Int) 601 = z := ⟨_, rfl⟩
  have hms0 : 0 ≤ ms ∧ ms ≤ 601 := by omega
  rw [hn] at hc ⊢
  have HN := hide hn
  have HD := hide hD
  have HSZ := hide hsz
  have HMS := hide hms
  unfold maxLen at hm
  have hnI : (n : Int) ≤ 9223372036854775807 := by omega
  clear hn hD
  go_enter Tryd.func10, Tryd.ntmps10
  go_wp2_with fail
  clear hms hsz
  go_loopw [5, 6] (fun nv iv wr => ∃ (k : Nat) (m : Int), k ≤ n ∧ k ≤ 121 ∧ iv = .int .i64 (k : Int) ∧ nv = .int .i64 m ∧ 0 ≤ m ∧ m ≤ 601 ∧ Hid (m = ms + txS (L.take k)) ∧ Hid (∀ d ∈ L.take k, d.l.length ≤ 100) ∧ Hid (Below w.heap.size w wr)) (fun _ iv _ => ((n : Int) - intOf iv).toNat)
  case atStart => exact ⟨0, ms, by omega, by omega, by simp, by simp, by omega, by omega, hide (by simp [txS]), hide (by simp), hide (Below.refl _ _)⟩
  case round =>
    obtain ⟨k, m, hk, hk2, rfl, rfl, hm0, hm1, HM, HS, HB⟩ := hrel
    by_cases c1 : (k : Int) < (n : Int)
    · by_cases c2 : (k : Int) ≤ 120
      · by_cases c3 : m ≤ 600
        · obtain ⟨d, hd⟩ : ∃ d, L[k]? = some d := ⟨_, List.getElem?_eq_getElem (by rw [unhide HN]; omega)⟩
          have HDK := hide hd
          have hmem := List.mem_of_getElem? hd
          have HED := hide ((unhide HD).1 d hmem)
          have hx := ((unhide HD).call (unhide HB)).2
          rcases hx with h0 | ⟨b, off, rfl, hlt, hx⟩
          · exfalso; rw [h0] at hd; simp at hd
          have q2 : wr.cell? ⟨b, off + k * 3 + 2, none⟩ = some (.slice d.a d.l.length d.c) := hx k d hd 2 _ rfl
          obtain ⟨ln, hln⟩ : ∃ z, d.l.length = z := ⟨_, rfl⟩
          rw [hln] at q2
          have HLN := hide hln
          have hlnI : (ln : Int) ≤ 9223372036854775807 := by have := (unhide HED).num; rw [hln] at this; omega
          have k0 : (0 : Int) ≤ (k : Int) := by omega
          clear hd hmem hx hln hlt
          by_cases c4 : (100 : Int) < (ln : Int)
          · go_wp2_with fail
            go_ret
            exact ⟨ShR.no _ _, unhide HB⟩
          · go_wp2_with fail
            clear q2
            obtain ⟨w1, hw1⟩ : ∃ z, wr = z := ⟨_, rfl⟩
            go_loopw [5, 39] (fun nv iv wr2 => ∃ (q : Nat) (m2 : Int), q ≤ ln ∧ iv = .int .i64 (q : Int) ∧ nv = .int .i64 m2 ∧ 0 ≤ m2 ∧ m2 ≤ 600 ∧ Hid (m2 = ms + txS (L.take k) + tx (d.l.take q)) ∧ Hid (Below w.heap.size w wr2)) (fun _ iv _ => ((ln : Int) - intOf iv).toNat)
            case atStart => exact ⟨0, m, by omega, by simp, by simp, hm0, c3, hide (by have := unhide HM; simp [tx]; exact this), HB⟩
            case round =>
              clear hw1 HB hm0 hm1 c3 HM
              obtain ⟨q, m2, hq0, rfl, rfl, hm0, hm1, HM2, HB2⟩ := hrel
              by_cases d1 : (q : Int) < (ln : Int)
              · obtain ⟨p, hp⟩ : ∃ p, d.l[q]? = some p := ⟨_, List.getElem?_eq_getElem (by rw [unhide HLN]; omega)⟩
                obtain ⟨b2, off2, hea, e0, e1, e2⟩ := (unhide HED).pts.at_ (unhide HB2) hp
                obtain ⟨pz, hpz⟩ : ∃ z, p.text.size = z := ⟨_, rfl⟩
                obtain ⟨mn, hmn⟩ : ∃ z, min (pz : Int) 600 = z := ⟨_, rfl⟩
                have hmn0 : 0 ≤ mn ∧ mn ≤ 600 := by omega
                have HM3 : Hid (m2 + mn = ms + txS (L.take k) + tx (d.l.take (q + 1))) := hide (by have h1 := unhide HM2; rw [tx_take hp, hpz, hmn]; omega)
                have HB3 : Hid (Below w.heap.size w (wr.alloc (.cells #[.int .i64 p.kind, .int .i64 p.n, .string p.text] 38))) := hide ((unhide HB2).alloc (unhide HB2).size _)
                rw [hea]
                clear hp hea HM2
                by_cases d2 : 600 < m2 + mn
                · go_wp2_with fail
                  go_ret
                  exact ⟨ShR.no _ _, unhide HB3⟩
                · by_cases d3 : p.kind = 2
                  · have d3b : (p.kind != 2) = false := by simp [d3]
                    clear d3
                    go_wp2_with fail
                    exact ⟨⟨q + 1, _, by omega, by simp, rfl, by omega, by omega, HM3, HB3⟩, by simp [intOf]; omega⟩
                  · have d3b : (p.kind != 2) = true := by simp [d3]
                    clear d3
                    by_cases d4 : 600 < p.n
                    · go_wp2_with fail
                      go_ret
                      exact ⟨ShR.no _ _, unhide HB3⟩
                    · go_wp2_with fail
                      exact ⟨⟨q + 1, _, by omega, by simp, rfl, by omega, by omega, HM3, HB3⟩, by simp [intOf]; omega⟩
              · have HW : Hid (m2 = ms + txS (L.take (k + 1))) := hide (by have h1 := unhide HM2; rw [show d.l.take q = d.l from List.take_of_length_le (by rw [unhide HLN]; omega)] at h1; rw [txS_take (unhide HDK)]; omega)
                have HF : Hid (∀ e ∈ L.take (k + 1), e.l.length ≤ 100) := hide (fun e he => by
                  rw [List.take_add_one, unhide HDK] at he
                  rcases List.mem_append.1 he with h1 | h1
                  · exact unhide HS e h1
                  · obtain rfl : e = d := by simpa using h1
                    rw [unhide HLN]; omega)
                go_wp2_with fail
                exact ⟨⟨k + 1, m2, by omega, by omega, by simp, rfl, hm0, by omega, HW, HF, HB2⟩, by simp [intOf]; omega⟩
        · by_cases c4 : (n : Int) ≤ 120
          · go_wp2_with fail
            go_ret
            exact ⟨⟨_, rfl, fun h => by simp at h⟩, unhide HB⟩
          · go_wp2_with fail
            go_ret
            exact ⟨ShR.no _ _, unhide HB⟩
      · have c4 : ¬ (n : Int) ≤ 120 := by omega
        go_wp2_with fail
        go_ret
        exact ⟨ShR.no _ _, unhide HB⟩
    · obtain rfl : n = k := by omega
      have HF : Hid (∀ d ∈ L, d.l.length ≤ 100) := hide (by have h := unhide HS; rw [List.take_of_length_le (by rw [unhide HN]; exact Nat.le_refl _)] at h; exact h)
      have HE : Hid (m = ms + txS L) := hide (by have h := unhide HM; rw [List.take_of_length_le (by rw [unhide HN]; exact Nat.le_refl _)] at h; exact h)
      have HT0 : Hid (0 ≤ txS L) := hide (txS_pos L)
      by_cases c4 : (n : Int) ≤ 120
      · by_cases c5 : m ≤ 600
        · go_wp2_with fail
          go_ret
          refine ⟨⟨_, rfl, fun _ => ?_⟩, unhide HB⟩
          have h1 := unhide HE
          have h2 := unhide HT0
          have h3 := unhide HMS
          have h4 := unhide HSZ
          have h5 := unhide HN
          rw [h4, h5]
          exact ⟨by omega, by omega, unhide HF, by omega⟩
        · go_wp2_with fail
          go_ret
          exact ⟨⟨_, rfl, fun h => by simp_all⟩, unhide HB⟩
      · go_wp2_with fail
        go_ret
        exact ⟨ShR.no _ _, unhide HB⟩
end Go.Proofs.YtihiengejpjbkaaDoor
