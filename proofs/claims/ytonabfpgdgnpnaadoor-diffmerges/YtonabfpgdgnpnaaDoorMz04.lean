/- Parts of the walk: Awk, LRu, Lgt, Row0, Apd. -/
import Derived.Test.YtonabfpgdgnpnaaDoorMz03
import Derived.Laws.IdiomStrings
import Derived.Laws.Cover4
import Derived.Lib.LaidU8
import Derived.Deep.DeepHandedRow
import Derived.Lib.LaidTab
import Derived.Deep.Slices
import Derived.SizedLaws
import Derived.ChangeMaps5
import Derived.Test.YtonabfpgdgnpnaaDoorCards
import Derived.Test.YtonabfpgdgnpnaaDoorTie
import Derived.Test.YtonabfpgdgnpnaaDoorMz02
import Derived.Deep.AppendLies
namespace Go.Proofs.YtonabfpgdgnpnaaDoor
set_option linter.unusedVariables false
set_option linter.unusedSimpArgs false
open Go.ChangeShapes Go.WideShapes Go.ChangeAt Go.RowKit Go.Joins Go.Deep

theorem cp_ascii (b : UInt8) (h : b.toNat < 128) : Cp [b] := by
  have e : Lib.decodeL [b] = (b.toNat, 1) := by
    rw [Lib.decodeL_N]
    unfold Lib.decodeN
    simp [h]
  refine ⟨by simp, ?_, by rw [e]; rfl⟩
  rw [e]
  simp
  omega
theorem cps_ascii : ∀ l : List UInt8, (∀ b ∈ l, b.toNat < 128) → Cps (l.map (fun b => [b]))
  | [], _ => Cps.nil
  | b :: l, h => Cps.cons (cp_ascii b (h b (List.mem_cons_self ..))) (cps_ascii l (fun c hc => h c (List.mem_cons_of_mem _ hc)))
theorem tx_ascii (l : List UInt8) (h : ∀ b ∈ l, b.toNat < 128) : Tx ⟨l.toArray⟩ (l.map (fun b => [b])) := by
  refine ⟨cps_ascii l h, ?_⟩
  clear h
  induction l with
  | nil => rfl
  | cons b l ih => simp at ih ⊢; exact ih
theorem Tx.bytes {s : ByteArray} {cs : List (List UInt8)} (h : Tx s cs) : s = ⟨cs.flatten.toArray⟩ := ByteArray.ext (Array.toList_inj.1 (by rw [h.eq]))
theorem fit_keep {n : Int} (h1 : 1 ≤ n) (h2 : n ≤ 1099511627776) : Fit1 ⟨1, n, ByteArray.empty⟩ := ⟨good_keep (by omega), h2⟩
theorem ed_check {l : List Pt} {f t : Nat} (h : IsEd l f t) : checkE l (f : Int) = 0 := by
  unfold checkE
  rw [ed_size h]
  simp
theorem ed_isOf {l : List Pt} {t : Nat} {s : ByteArray} {cs : List (List UInt8)} (h : Tx s cs) (he : IsEd l cs.length t) : isOfB l s = true := by
  unfold isOfB
  rw [h.valid, h.count, ed_check he]
  rfl
theorem ed_text {l : List Pt} {f t : Nat} (h : IsEd l f t) : ∀ p ∈ l, p.text.size ≤ 281474976710656 := fun p hp => by
  have h1 := ed_fit h p hp
  have := h1.1.size
  have := h1.2
  omega
/-- Apply of an edit of that text -/
theorem apply_ed {a : Option Addr} {l : List Pt} {c t : Nat} {s : ByteArray} {cs : List (List UInt8)} {w : World} (hT : UT w) (hp : PtsAt w a l) (hc : l.length ≤ maxLen) (h : Tx s cs) (he : IsEd l cs.length t) :
    Calls Tryd.prog 20 #[.slice a l.length c, .string s] w fun r w' => ∃ S, r = .returned (.tuple #[.string S, .int .i64 0]) ∧ Tx S (At.app (atomsL l) cs) ∧ Below w.heap.size w w' := by
  have hsz : s.size ≤ 281474976710656 := by
    have h1 := h.cps.most
    rw [← h.size] at h1
    have h2 := he.2.2.2.1
    omega
  refine Calls.mono (apply_any a l c s w hT hp hc (ed_text he) hsz) ?_
  rintro r w' ⟨h1, hb⟩
  rcases h1 with ⟨h1, _⟩ | ⟨_, S, ds, h2, h3, rfl⟩
  · rw [ed_isOf h he] at h1; cases h1
  · rw [h.inj h2]
    exact ⟨S, rfl, h3, hb⟩
end Go.Proofs.YtonabfpgdgnpnaaDoor

namespace Go.Proofs.YtonabfpgdgnpnaaDoor
set_option linter.unusedVariables false
set_option linter.unusedSimpArgs false
open Go.ChangeShapes Go.WideShapes Go.ChangeAt Go.RowKit Go.Joins Go.Deep

/-- the number of a code point -/
def rn (c : List UInt8) : Nat := (Lib.decodeL c).1
def rnv (cs : List (List UInt8)) : List Value := cs.map (fun c => .int .i32 (rn c : Int))
theorem rnv_len (cs : List (List UInt8)) : (rnv cs).length = cs.length := by simp [rnv]
theorem rn_at {s : ByteArray} {cs : List (List UInt8)} (h : Tx s cs) {n : Nat} {c : List UInt8} (hc : cs[n]? = some c) : (Utf8.decode s (placeOf cs n)).1 = rn c := by
  have hn := (List.getElem?_eq_some_iff.1 hc).1
  have hd := drop_place h n
  have e : cs.drop n = c :: cs.drop (n + 1) := by
    rw [List.drop_eq_getElem_cons hn]
    rw [(List.getElem?_eq_some_iff.1 hc).2]
  have hcp := h.cps c (List.mem_of_getElem? hc)
  rw [← Lib.decodeL_drop, hd, e, List.flatten_cons, hcp.front]
  rfl
theorem runes_from {s : ByteArray} {cs : List (List UInt8)} (h : Tx s cs) : ∀ (k n bound : Nat) (acc : Array Value), k + n = cs.length → k ≤ bound → Conv.runesFrom s bound (placeOf cs n) acc = acc ++ (rnv (cs.drop n)).toArray
  | 0, n, bound, acc, hk, hb => by
    have e : cs.drop n = [] := List.drop_of_length_le (by omega)
    have hp : ¬ placeOf cs n < s.size := by
      have h1 := congrArg List.length (drop_place h n)
      rw [e, List.length_drop, ← Lib.size_eq] at h1
      simp at h1
      omega
    rw [e]
    cases bound with
    | zero => simp [Conv.runesFrom, rnv]
    | succ b => unfold Conv.runesFrom; rw [if_neg hp]; simp [rnv]
  | k + 1, n, bound, acc, hk, hb => by
    obtain ⟨b, rfl⟩ : ∃ b, bound = b + 1 := ⟨bound - 1, by omega⟩
    have hn : n < cs.length := by omega
    obtain ⟨c, hc⟩ : ∃ c, cs[n]? = some c := ⟨_, List.getElem?_eq_getElem hn⟩
    obtain ⟨h1, h2⟩ := placeOf_next h hn
    have e : cs.drop n = c :: cs.drop (n + 1) := by
      rw [List.drop_eq_getElem_cons hn]
      rw [(List.getElem?_eq_some_iff.1 hc).2]
    unfold Conv.runesFrom
    rw [if_pos h2]
    simp only
    rw [← h1, runes_from h k (n + 1) b _ (by omega) (by omega), e, rn_at h hc]
    simp [rnv]
theorem runes_eq {s : ByteArray} {cs : List (List UInt8)} (h : Tx s cs) : Conv.runesFrom s s.size 0 #[] = (rnv cs).toArray := by
  have h1 := runes_from h cs.length 0 s.size #[] (by omega) (by rw [h.size]; exact h.cps.len)
  rw [placeOf_zero] at h1
  rw [h1]
  simp
def TRunR (s : ByteArray) (most : Int) (w : World) (r : Ending) (w' : World) : Prop := (Lib.validD s.data.toList = false ∧ r = .returned (.tuple #[.slice none 0 0, .int .i64 21]) ∨ ∃ cs, Tx s cs ∧ (most < (cs.length : Int) ∧ r = .returned (.tuple #[.slice none 0 0, .int .i64 4]) ∨ (cs.length : Int) ≤ most ∧ ∃ v, r = .returned (.tuple #[v, .int .i64 0]) ∧ w'.ownsRow w.heap.size 21 1 v cs.length (rnv cs) ∧ ∃ g c, v = .slice (some ⟨g, 0, none⟩) cs.length c)) ∧ Below w.heap.size w w'
theorem runes_own (w : World) {s : ByteArray} {cs : List (List UInt8)} (h : Tx s cs) (hs : s.size ≤ 70368744177664) : ∃ v w', (convert 9 54 (.string s)).run Tryd.prog w = .ok v w' ∧ w'.ownsRow w.heap.size 21 1 v cs.length (rnv cs) ∧ (∃ g c, v = .slice (some ⟨g, 0, none⟩) cs.length c) ∧ Below w.heap.size w w' := by
  have hfew : cs.length ≤ s.size := by have := h.cps.len; rw [← h.size] at this; exact this
  have e := run_runes_of_string (P := Tryd.prog) w 9 54 21 s Tryd.underlying9 Tryd.underlying54 Tryd.underlying21 (by rw [runes_eq h]; simp [rnv]; omega)
  rw [runes_eq h] at e
  have hsz : (rnv cs).toArray.size = cs.length := by simp [rnv]
  have hge := grownCap_ge w cs.length 0 21
  have hle := grownCap_le_maxLen w cs.length 0 21 (by unfold maxLen; omega)
  rw [hsz] at e
  generalize hK : grownCap w cs.length 0 21 = K at e hge hle
  refine ⟨_, _, e, ⟨by rw [rnv_len]; simp, .inr ⟨w.heap.size, K, (rnv cs).toArray ++ Array.replicate (K - cs.length) (.int .i32 0), rfl, Nat.le_refl _, ?_, hge, hle, by simp [rnv]; omega, by simp [rnv_len]⟩⟩, ⟨_, _, rfl⟩, (Below.drew (Below.refl _ _)).alloc (by show w.heap.size ≤ w.heap.size; exact Nat.le_refl _) _⟩
  exact RowAt.new w.drew 21 ((rnv cs).toArray ++ Array.replicate (K - cs.length) (Value.int .i32 0)).toList
set_option maxRecDepth 100000 in
set_option maxHeartbeats 4000000 in
theorem trunes_any (s : ByteArray) (most : Int) (w : World) (hT : UT w) (hs : s.size ≤ 70368744177664) : Calls Tryd.prog 50 #[.string s, .int .i64 most] w fun r w' => TRunR s most w r w' := by
  have KV := hide (valid_any s w hT (by omega))
  have KC := hide (fun W => counts_any s W (by omega))
  cases hv : Lib.validD s.data.toList with
  | false =>
    rw [hv] at KV
    have hv' := hv
    clear hv
    go_enter Tryd.func50, Tryd.ntmps50
    go_wp2_with fail
    refine Calls.mono (unhide KV) ?_
    rintro r w1 ⟨rfl, b1⟩
    have B1 := hide b1
    clear b1
    go_wp2_with fail
    go_ret2
    exact ⟨.inl ⟨hv', rfl⟩, unhide B1⟩
  | true =>
    obtain ⟨cs, hx⟩ := tx_of_valid hv
    rw [hv] at KV
    rw [hx.count] at KC
    have HX := hide hx
    have hfew : cs.length ≤ s.size := by have := hx.cps.len; rw [← hx.size] at this; exact this
    have HF := hide (And.intro hfew hs)
    obtain ⟨n, hn⟩ : ∃ n, cs.length = n := ⟨_, rfl⟩
    rw [hn] at KC
    have HN := hide hn
    clear hv hx hfew hs hn hT
    go_enter Tryd.func50, Tryd.ntmps50
    go_wp2_with fail
    refine Calls.mono (unhide KV) ?_
    rintro r w1 ⟨rfl, b1⟩
    have B1 := hide b1
    clear b1
    go_wp2_with fail
    refine Calls.mono (unhide KC _) ?_
    rintro r w2 ⟨rfl, b2⟩
    have B2 := hide ((unhide B1).trans (b2.mono (unhide B1).size))
    clear b2
    by_cases hm : most < (n : Int)
    · go_wp2_with fail
      go_ret2
      exact ⟨.inr ⟨cs, unhide HX, .inl ⟨by rw [unhide HN]; exact hm, rfl⟩⟩, unhide B2⟩
    · obtain ⟨v, w3, e, ho, hsm, b3⟩ := runes_own w2 (unhide HX) (unhide HF).2
      have B3 := hide ((unhide B2).trans (b3.mono (unhide B2).size))
      have HO := hide (And.intro (own_base ho (unhide B2).size) hsm)
      clear ho b3 hsm
      go_wp2_with fail
      go_ret2
      exact ⟨.inr ⟨cs, unhide HX, .inr ⟨by rw [unhide HN]; omega, v, rfl, unhide HO⟩⟩, unhide B3⟩
end Go.Proofs.YtonabfpgdgnpnaaDoor

namespace Go.Proofs.YtonabfpgdgnpnaaDoor
set_option linter.unusedVariables false
set_option linter.unusedSimpArgs false
open Go.ChangeShapes Go.WideShapes Go.ChangeAt Go.RowKit Go.Joins Go.Deep

/-- an edit as a slice: where, its parts, its room -/
structure Ev where
  a : Option Addr
  l : List Pt
  c : Nat
def ev (e : Ev) : Value := .slice e.a e.l.length e.c
/-- how much text, each as at most 4096 -/
def wt (l : List Pt) : Int := (l.map (fun p => min (p.text.size : Int) 4096)).sum
def wtS (es : List Ev) : Int := (es.map (fun e => wt e.l)).sum
theorem wt_take {l : List Pt} {i : Nat} {p : Pt} (h : l[i]? = some p) : wt (l.take (i + 1)) = wt (l.take i) + min (p.text.size : Int) 4096 := by
  unfold wt
  rw [List.take_add_one, h]
  simp
theorem wtS_take {l : List Ev} {i : Nat} {e : Ev} (h : l[i]? = some e) : wtS (l.take (i + 1)) = wtS (l.take i) + wt e.l := by
  unfold wtS
  rw [List.take_add_one, h]
  simp
def LgR (es : List Ev) (r : Ending) : Prop := ∃ b, r = .returned (.bool b) ∧ (b = true → (∀ e ∈ es, e.l.length ≤ 200) ∧ wtS es ≤ 4096)
/-- the tables lie there -/
def laidList : List (String × DataW Unit) := [("unicode/utf8.acceptRanges", Rows.laid_unicode_utf8_acceptRanges), ("unicode/utf8.first", Rows.laid_unicode_utf8_first)]
theorem u8x : U8Extra Tryd.prog Tryd.lays197_ren := ⟨by kernel_rfl, by kernel_rfl, by kernel_rfl, by kernel_rfl, by kernel_rfl, by kernel_rfl, by kernel_rfl⟩
set_option maxRecDepth 100000 in
theorem ut_of {W : World} (h : laidMet Tryd.prog laidList W) : UT W :=
  utf8Tabs_of_reads { Tryd.lays197 with } u8x (Lib.laidMet.reads h (n := "unicode/utf8.first") (d := Rows.laid_unicode_utf8_first) (by simp [laidList])) (Lib.laidMet.reads h (n := "unicode/utf8.acceptRanges") (d := Rows.laid_unicode_utf8_acceptRanges) (by simp [laidList]))
theorem own : ownKnob Tryd.prog.godebug = none := by kernel_rfl
theorem laidOut : laidOutB Tryd.prog = true := by kernel_rfl
def accCells : Array Value := #[.int .u8 128, .int .u8 191, .int .u8 160, .int .u8 191, .int .u8 128, .int .u8 159, .int .u8 144, .int .u8 191, .int .u8 128, .int .u8 143, .int .u8 0, .int .u8 0, .int .u8 0, .int .u8 0, .int .u8 0, .int .u8 0, .int .u8 0, .int .u8 0, .int .u8 0, .int .u8 0, .int .u8 0, .int .u8 0, .int .u8 0, .int .u8 0, .int .u8 0, .int .u8 0, .int .u8 0, .int .u8 0, .int .u8 0, .int .u8 0, .int .u8 0, .int .u8 0]
def firstIn : Obj → Obj
  | .cells _ t frozen => .cells (Go.Pinned.utf8FirstZ.map fun (n : Nat) => Value.int .u8 (n : Int)).toArray t frozen
  | o => o
def accIn : Obj → Obj
  | .cells _ t frozen => .cells accCells t frozen
  | o => o
/-- A world for the witness: both tables as their initialisers lay them. -/
noncomputable def laidWorld (os : Os) : World :=
  { World.holding Tryd.prog os ⟨#[], #[], []⟩ with heap := ((World.holding Tryd.prog os ⟨#[], #[], []⟩).heap.modify 0 firstIn).modify 1 accIn }
theorem list_of {α : Type} {n : Nat} {p : Nat → α → Prop} (h : ∀ i, i < n → ∃ c, p i c) : ∃ L : List α, L.length = n ∧ ∀ i c, L[i]? = some c → p i c := by
  induction n with
  | zero => exact ⟨[], rfl, fun i c hc => by simp at hc⟩
  | succ n ih =>
    obtain ⟨L, hL, hp⟩ := ih (fun i hi => h i (by omega))
    obtain ⟨c, hc⟩ := h n (by omega)
    refine ⟨L ++ [c], by simp [hL], fun i c' hc' => ?_⟩
    rw [List.getElem?_append] at hc'
    split at hc'
    · exact hp i c' hc'
    · have hi : i = n := by
        by_cases hi : i - L.length = 0
        · omega
        · obtain ⟨q, hq⟩ := Nat.exists_eq_succ_of_ne_zero hi
          rw [hq] at hc'; simp at hc'
      subst hi
      rw [hL, Nat.sub_self] at hc'
      simp at hc'
      subst hc'
      exact hc
/-- an edit that comes in -/
structure Edit (W : World) (a : Option Addr) (l : List Pt) (c : Nat) : Prop where
  pts : PtsAt W a l
  at_ : AtB W a
  cap : l.length ≤ c
  max : c ≤ maxLen
  txt : ∀ p ∈ l, p.text.size ≤ 140737488351232
  num : l.length ≤ 4398046511104
set_option maxRecDepth 100000 in
theorem weights_all {H : Type} {P : Program} {e : TypeId} : ∀ {l : List (DataW H)} {d : DataW H}, d ∈ l → ∀ n ∈ d.weights P e, n ∈ DataW.weightsAll P e l
  | d' :: r, d, hd, n, hn => by
    simp only [DataW.weightsAll, List.mem_append]
    rcases List.mem_cons.1 hd with rfl | h
    · exact Or.inl hn
    · exact Or.inr (weights_all h n hn)
set_option maxRecDepth 100000 in
theorem open_edit {H : Type} {enc : TypeId × Value → H} {W : World} {b0 base : Nat} {spare : Nat → Bool} {held : Bool} {v : Value} {d : DataW H} {p : List MemPlace}
    (hv : Value.okWide Tryd.prog W .any b0 24 v) (h : DataW.Trod enc Tryd.prog W base spare held 24 v d p) (hz : ∀ n ∈ d.weights Tryd.prog 24, n ≤ reachBytes) :
    ∃ (a : Option Addr) (l : List Pt) (c : Nat), v = .slice a l.length c ∧ Edit W a l c := by
  obtain ⟨a, n, c, rfl⟩ := okWide_slice Tryd.underlying24 hv
  have hat : AtB W a := by
    intro b off e
    subst e
    unfold Value.okWide at hv
    rw [Tryd.underlying24] at hv
    simp only [Cell.okWide, Tryd.underlying24, Cell.ok, World.has] at hv
    obtain ⟨_, _, _, _, row, cells, hs, _⟩ := hv
    unfold World.shape? at hs
    rcases Nat.lt_or_ge b W.heap.size with h1 | h1
    · exact h1
    · simp [Array.getElem?_eq_none h1] at hs
  obtain ⟨fuel, hf⟩ := h
  rcases open_slice Tryd.underlying24 hf with ⟨hcs, _⟩ | ⟨a, len, cap, m, k, D, Pl, hcs, hb, hl, hm, hmm, hx, hel⟩
  · simp [Value.cells] at hcs
    obtain ⟨rfl, rfl, rfl⟩ := hcs
    exact ⟨none, [], 0, rfl, .inl rfl, AtB.none W, by simp, by simp, by simp, by simp⟩
  · simp [Value.cells] at hcs
    obtain ⟨rfl, rfl, rfl⟩ := hcs
    have hlm : n ≤ m := by rw [hmm]; split <;> omega
    obtain ⟨hd, _⟩ := Prod.mk.inj hx
    have hsz : n * 32 ≤ reachBytes := by
      have := hz ((((List.range n).map D).length + ((List.range (m - n)).map fun j => D (n + j)).length) * Tryd.prog.bytesOf 39) (by rw [hd]; simp [DataW.weights, Tryd.underlying24])
      rw [show Tryd.prog.bytesOf 39 = 32 by kernel_rfl] at this
      simp only [List.length_map, List.length_range] at this
      omega
    have each : ∀ i, i < n → ∃ q : Pt, W.cell? (a.add (i * 3)) = some (.int .i64 q.kind) ∧ W.cell? (a.add (i * 3 + 1)) = some (.int .i64 q.n) ∧ W.cell? (a.add (i * 3 + 2)) = some (.string q.text) ∧ q.text.size ≤ 140737488351232 := by
      intro i hi
      obtain ⟨cs', h1, h2⟩ := hel i (by omega)
      rw [show Tryd.prog.cellsOf 39 = 3 by kernel_rfl] at h1
      obtain ⟨_, hlen, hcell⟩ := World.cells?_some h1
      obtain ⟨xs, kk, hk, hxy, _, hxl, hfld⟩ := DataW.trod_struct Tryd.underlying39 h2
      match xs, hxl, cs', hlen with
      | [y0, y1, y2], _, [v0, v1, v2], _ =>
        have g0 := hfld 0 _ rfl
        have g1 := hfld 1 _ rfl
        have g2 := hfld 2 _ rfl
        simp [show Tryd.prog.cellsOf 3 = 1 by kernel_rfl, show Tryd.prog.cellsOf 9 = 1 by kernel_rfl] at g0 g1 g2
        have e0 := hcell 0 (by omega)
        have e1 := hcell 1 (by omega)
        have e2 := hcell 2 (by omega)
        rw [add_add] at e0 e1 e2
        obtain ⟨x0, f0, _, _⟩ := DataW.trod_int Tryd.underlying3 g0
        obtain ⟨x1, f1, _, _⟩ := DataW.trod_int Tryd.underlying3 g1
        obtain ⟨x2, f2, f3, _⟩ := DataW.trod_string Tryd.underlying9 g2
        simp at f0 f1 f2
        subst f0 f1 f2
        refine ⟨⟨x0, x1, x2⟩, by simpa using e0, by simpa using e1, by simpa using e2, ?_⟩
        have hw := hz x2.data.toList.length (by
          rw [hd]
          simp only [DataW.weights, Tryd.underlying24, List.mem_cons, List.mem_append]
          refine .inr (.inl (weights_all (d := D i) (List.mem_map.2 ⟨i, List.mem_range.2 hi, rfl⟩) _ ?_))
          have hD : D i = .agg [y0.1, y1.1, y2.1] := (Prod.mk.inj hxy).1
          rw [hD]
          simp only [DataW.weights, Tryd.underlying39]
          simp [DataW.weightsEach, f3, DataW.weights])
        simp only [reachBytes] at hw
        rw [Lib.size_eq]
        exact hw
    obtain ⟨L, hL, hp⟩ := list_of each
    refine ⟨some a, L, c, by rw [hL], ?_, hat, by rw [hL]; exact hl, hm, fun q hq => ?_, by rw [hL]; simp only [reachBytes] at hsz; omega⟩
    · by_cases hzz : L = []
      · exact .inl hzz
      · right
        have hpos : 0 < L.length := List.length_pos_iff.2 hzz
        have q0 := (hp 0 _ (List.getElem?_eq_getElem hpos)).1
        obtain ⟨b, off, spot⟩ := a
        have hspot : spot = none := by simpa [Addr.add] using World.cell?_spot q0
        subst hspot
        refine ⟨b, off, rfl, hat b off rfl, fun i q hi => ?_⟩
        obtain ⟨r0, r1, r2, _⟩ := hp i q hi
        rw [Addr.add_lit] at r0 r1 r2
        exact ⟨r0, by rw [Nat.add_assoc]; exact r1, by rw [Nat.add_assoc]; exact r2⟩
    · obtain ⟨i, hi⟩ := List.getElem?_of_mem hq
      exact (hp i q hi).2.2.2
set_option maxRecDepth 100000 in
theorem open_text {H : Type} {enc : TypeId × Value → H} {W : World} {b0 base : Nat} {spare : Nat → Bool} {held : Bool} {v : Value} {d : DataW H} {p : List MemPlace}
    (hv : Value.okWide Tryd.prog W .any b0 9 v) (h : DataW.Trod enc Tryd.prog W base spare held 9 v d p) (hz : ∀ n ∈ d.weights Tryd.prog 9, n ≤ reachBytes) : ∃ s : ByteArray, v = .string s ∧ s.size ≤ 140737488351232 := by
  obtain ⟨s, rfl, rfl, _, _⟩ := Go.ChangeMaps.open_string Tryd.underlying9 hv h
  refine ⟨s, rfl, ?_⟩
  have := hz s.data.toList.length (by simp [DataW.weights])
  simp only [reachBytes] at this
  rw [Lib.size_eq]
  exact this
set_option maxRecDepth 100000 in
theorem open_i64 {H : Type} {enc : TypeId × Value → H} {W : World} {b0 base : Nat} {spare : Nat → Bool} {held : Bool} {v : Value} {d : DataW H} {p : List MemPlace}
    (hv : Value.okWide Tryd.prog W .any b0 3 v) (h : DataW.Trod enc Tryd.prog W base spare held 3 v d p) : ∃ n : Int, v = .int .i64 n ∧ -9223372036854775808 ≤ n ∧ n ≤ 9223372036854775807 := by
  obtain ⟨n, rfl, _, _, wn⟩ := open_int Tryd.underlying3 hv h
  have := bounds_i64 wn
  exact ⟨n, rfl, this.1, this.2⟩
set_option maxRecDepth 100000 in
theorem open_bool {H : Type} {enc : TypeId × Value → H} {W : World} {b0 base : Nat} {spare : Nat → Bool} {held : Bool} {v : Value} {d : DataW H} {p : List MemPlace}
    (hv : Value.okWide Tryd.prog W .any b0 4 v) (h : DataW.Trod enc Tryd.prog W base spare held 4 v d p) : ∃ b : Bool, v = .bool b := by
  unfold Value.okWide at hv
  rw [Tryd.underlying4] at hv
  simp only [Cell.okWide, Tryd.underlying4, Cell.ok] at hv
  cases v <;> simp at hv
  exact ⟨_, rfl⟩
end Go.Proofs.YtonabfpgdgnpnaaDoor

namespace Go.Proofs.YtonabfpgdgnpnaaDoor
set_option linter.unusedVariables false
set_option linter.unusedSimpArgs false
open Go.ChangeShapes Go.WideShapes Go.ChangeAt Go.RowKit Go.Joins Go.Deep

theorem Edit.call {w w' : World} {a : Option Addr} {l : List Pt} {c : Nat} (h : Edit w a l c) (hb : Below w.heap.size w w') : Edit w' a l c := ⟨h.pts.call hb, h.at_.call hb, h.cap, h.max, h.txt, h.num⟩
theorem OwnP.edit {w : World} {B : Nat} {v : Value} {l : List Pt} (h : OwnP w B v l) (ht : ∀ p ∈ l, p.text.size ≤ 140737488351232) (hn : l.length ≤ 4398046511104) : ∃ a c, v = .slice a l.length c ∧ Edit w a l c := by
  obtain ⟨a, c, e, h1, h2, h3, h4⟩ := h.open
  exact ⟨a, c, e, h1, h2, h3, h4, ht, hn⟩
theorem ed_txt {l : List Pt} {f t : Nat} (h : IsEd l f t) : ∀ p ∈ l, p.text.size ≤ 140737488351232 := fun p hp => by
  have h1 := ed_fit h p hp
  have := h1.1.size
  have := h1.2
  omega
theorem Edit.txt2 {w : World} {a : Option Addr} {l : List Pt} {c : Nat} (h : Edit w a l c) : ∀ p ∈ l, p.text.size ≤ 281474976710656 := fun p hp => by have := h.txt p hp; omega
theorem Tx.same {s t : ByteArray} {cs : List (List UInt8)} (h : Tx s cs) (k : Tx t cs) : s = t := by rw [h.bytes, k.bytes]
end Go.Proofs.YtonabfpgdgnpnaaDoor

namespace Go.Proofs.YtonabfpgdgnpnaaDoor
set_option linter.unusedVariables false
set_option linter.unusedSimpArgs false
open Go.ChangeShapes Go.WideShapes Go.ChangeAt Go.RowKit Go.Joins Go.Deep

theorem run_append_none {P : Program} (w : World) (t ty e : TypeId) (i : TypeInfo) (ht : P.underlying t = some (.slice e)) (hi : P.info? e = some i) (base : Option Addr) (sLen sCap c : Nat) (hle : sLen ≤ sCap) :
    (Builtin.append_ #[t, t] ty #[.slice base sLen sCap, .slice none 0 c]).run P w = .ok (.slice base sLen sCap) w := by
  cases base <;> simp [Builtin.append_, run_underlying ht, sizeOf, typeInfo, hi, Builtin.lenOf, Builtin.firstCells, loadCells, loadCellsFrom, hle, storeCells]

theorem wp_append_src {P : Program} (w : World) {o : Oper} {a : Act} {K : Act → World → Prop} {Q : Exit → Act → World → Prop} (s x : Operand) (t : TypeId)
    (ho : o.op = .call { callee := .builtin .append, args := #[s, x], argTypes := #[t, t] })
    (base : Nat) (e : TypeId) (i : TypeInfo) (z : Value) (size bytes : Nat) (ht : P.underlying t = some (.slice e)) (hi : P.info? e = some i) (hz : i.zero = some z)
    (hsize : i.size = size) (hby : i.bytes = bytes) (hzs : z.cells.size = size) (hsz : 0 < size)
    (v : Value) (n : Nat) (xs : List Value) (hs : a.eval s = v) (hown : w.ownsRow base e size v n xs)
    (ad : Option Addr) (m c : Nat) (news : List Value) (hx : a.eval x = .slice ad m c) (hl : news.length = m * size) (hnone : ad = none → m = 0) (hnews : ∀ b, ad = some b → ∀ j u, news[j]? = some u → w.cell? (b.add j) = some u) (h1 : ∀ u ∈ news, u.oneCell' = true)
    (h63 : n + m ≤ maxLen) (hbytes : (n + m) * bytes ≤ 140737488355328) (hbase : base ≤ w.heap.size)
    (h : ∀ ad' cap w', w'.ownsRow base e size (.slice ad' (n + m) cap) (n + m) (xs ++ news) → w.grownBy w' v.ownBlock → (Value.ownBlock (.slice ad' (n + m) cap) = v.ownBlock ∨ Value.ownBlock (.slice ad' (n + m) cap) = some w.heap.size) → K (a.put o.dst (.slice ad' (n + m) cap)) w') :
    o.wp P a w K Q := by
  obtain ⟨ad', cap, w', hr, h2, h3, h5⟩ : ∃ ad' cap w', (Builtin.append_ #[t, t] o.type #[v, .slice ad m c]).run P w = .ok (.slice ad' (n + m) cap) w' ∧ w'.ownsRow base e size (.slice ad' (n + m) cap) (n + m) (xs ++ news) ∧ w.grownBy w' v.ownBlock ∧ (Value.ownBlock (.slice ad' (n + m) cap) = v.ownBlock ∨ Value.ownBlock (.slice ad' (n + m) cap) = some w.heap.size) := by
    cases ad with
    | none =>
      have hm := hnone rfl
      subst hm
      have hn0 : news = [] := List.eq_nil_of_length_eq_zero (by simpa using hl)
      subst hn0
      obtain ⟨b, cap, hv, hle⟩ : ∃ b cap, v = .slice b n cap ∧ n ≤ cap := by
        rcases hown.2 with ⟨rfl, rfl⟩ | ⟨g, cap, cur, rfl, _, _, hle, _⟩
        · exact ⟨none, 0, rfl, Nat.le_refl _⟩
        · exact ⟨_, cap, rfl, hle⟩
      subst hv
      refine ⟨b, cap, w, run_append_none w t o.type e i ht hi b n cap c hle, ?_, ⟨rfl, rfl, rfl, Nat.le_refl _, fun _ _ _ => rfl⟩, .inl ?_⟩
      · simpa using hown
      · cases b <;> rfl
    | some b =>
      obtain ⟨v', w', hr, h2, h3, _, h5⟩ := run_append_own_at (P := P) w base t o.type e i z size bytes ht hi hz hsize hby hzs hsz v n xs hown b m c news hl (hnews b rfl) h1 h63 hbytes hbase
      obtain ⟨ad', cap, rfl⟩ : ∃ ad' cap, v' = .slice ad' (n + m) cap := by
        rcases h2.2 with ⟨rfl, h0⟩ | ⟨g, cap, cur, rfl, _⟩
        · exact ⟨none, 0, by rw [h0]⟩
        · exact ⟨_, cap, rfl⟩
      exact ⟨ad', cap, w', hr, h2, h3, h5⟩
  unfold Oper.wp execOp
  simp only [ho, resolve, invoke, builtin, Sem.run_bind, Sem.run_pure, Result.andThen_ok, List.map_toArray, List.map_cons, List.map_nil, hs, hx, hr]
  exact h ad' cap w' h2 h3 h5

theorem ptc_one (l : List Pt) : ∀ u ∈ ptc l, u.oneCell' = true := by
  induction l with
  | nil => intro u h; cases h
  | cons p l ih =>
    intro u hu
    rcases List.mem_append.1 (show u ∈ pcs p ++ ptc l from hu) with h | h
    · simp only [pcs, List.mem_cons, List.not_mem_nil, or_false] at h
      rcases h with rfl | rfl | rfl <;> rfl
    · exact ih u h
theorem ptc_app (l m : List Pt) : ptc (l ++ m) = ptc l ++ ptc m := by
  induction l with
  | nil => rfl
  | cons p l ih =>
    show pcs p ++ ptc (l ++ m) = (pcs p ++ ptc l) ++ ptc m
    rw [ih, List.append_assoc]
/-- parts that lie somewhere, behind those of an own row -/
theorem wp_append_pts {o : Oper} {a : Act} {K : Act → World → Prop} {Q : Exit → Act → World → Prop} {W : World} (s x : Operand)
    (ho : o.op = .call { callee := .builtin .append, args := #[s, x], argTypes := #[24, 24] }) (B : Nat) (v : Value) (l m : List Pt) (ad : Option Addr) (c : Nat)
    (hs : a.eval s = v) (hv : OwnP W B v l) (hn : l.length + m.length ≤ 4398046511104) (hB : B ≤ W.heap.size) (hx : a.eval x = .slice ad m.length c) (hp : PtsAt W ad m)
    (h : ∀ ad' cap w', OwnP w' B (.slice ad' (l.length + m.length) cap) (l ++ m) → W.grownBy w' v.ownBlock → (Value.ownBlock (.slice ad' (l.length + m.length) cap) = v.ownBlock ∨ Value.ownBlock (.slice ad' (l.length + m.length) cap) = some W.heap.size) → K (a.put o.dst (.slice ad' (l.length + m.length) cap)) w') : o.wp Tryd.prog a W K Q := by
  obtain ⟨i0, hi, hz, hsz, hb⟩ := infoPart
  refine wp_append_src W s x 24 ho B 39 i0 _ 3 32 Tryd.underlying24 hi hz hsz hb (by simp [Value.cells]) (by decide) v l.length (ptc l) hs hv ad m.length c (ptc m) hx (ptc_len m) (fun e => ?_) (fun b hb j u hu => ?_) (ptc_one m) (by unfold maxLen; omega) (by omega) hB (fun ad' cap w' h1 h2 h3 => h ad' cap w' ?_ h2 h3)
  · rcases hp with rfl | ⟨g, off, e2, _⟩
    · rfl
    · rw [e] at e2; cases e2
  · rcases hp with rfl | ⟨g, off, e2, _, hc⟩
    · cases hu
    · rw [hb] at e2
      cases e2
      have hlt : j < (ptc m).length := by
        rcases Nat.lt_or_ge j (ptc m).length with h | h
        · exact h
        · rw [List.getElem?_eq_none h] at hu; cases hu
      rw [ptc_len] at hlt
      obtain ⟨p, hp⟩ : ∃ p, m[j / 3]? = some p := ⟨_, List.getElem?_eq_getElem (by omega)⟩
      have h0 := hc _ _ hp
      have h1 := ptc_at m (j / 3) p hp
      rw [Addr.add_lit]
      have hj : j % 3 = 0 ∨ j % 3 = 1 ∨ j % 3 = 2 := by omega
      rcases hj with hj | hj | hj
      · have e : j = j / 3 * 3 := by omega
        rw [e] at hu ⊢
        rw [h1.1] at hu
        rw [← hu]
        have e3 : j / 3 * 3 / 3 = j / 3 := by omega
        exact h0.1
      · have e : j = j / 3 * 3 + 1 := by omega
        rw [e] at hu ⊢
        rw [h1.2.1] at hu
        rw [← hu]
        exact h0.2.1
      · have e : j = j / 3 * 3 + 2 := by omega
        rw [e] at hu ⊢
        rw [h1.2.2] at hu
        rw [← hu]
        exact h0.2.2
  · unfold OwnP
    rw [List.length_append, ptc_app]
    exact h1
end Go.Proofs.YtonabfpgdgnpnaaDoor
