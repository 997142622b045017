/- A text's code points, each as a text: the walk. -/
import Derived.Test.YtidblnjohkadhaaDoorRep
import Derived.Lib.OthersKept
import Derived.Lib.MapLaws
namespace Go.Proofs.YtidblnjohkadhaaDoor
set_option linter.unusedVariables false
set_option linter.unusedSimpArgs false
open Go.ChangeShapes Go.WideShapes Go.ChangeAt Go.RowKit Go.Joins Go.Deep

theorem infoStr : ∃ i, Tryd.prog.info? 9 = some i ∧ i.zero = some (.string ByteArray.empty) ∧ i.size = 1 ∧ i.bytes = 16 := info_parts (by kernel_rfl)
theorem infoBoo : ∃ i, Tryd.prog.info? 4 = some i ∧ i.zero = some (.bool false) ∧ i.size = 1 ∧ i.bytes = 1 := info_parts (by kernel_rfl)
/-- an own row of texts; of bools -/
def OwnS (w : World) (B : Nat) (v : Value) (l : List ByteArray) : Prop := w.ownsRow B 9 1 v l.length (l.map .string)
def OwnB (w : World) (B : Nat) (v : Value) (l : List Bool) : Prop := w.ownsRow B 4 1 v l.length (l.map .bool)
theorem OwnS.call {w w' : World} {B : Nat} {v : Value} {l : List ByteArray} (h : OwnS w B v l) (hb : Below w.heap.size w w') : OwnS w' B v l := own_call h hb
theorem OwnB.call {w w' : World} {B : Nat} {v : Value} {l : List Bool} (h : OwnB w B v l) (hb : Below w.heap.size w w') : OwnB w' B v l := own_call h hb
theorem wp_append_str {o : Oper} {a : Act} {K : Act → World → Prop} {Q : Exit → Act → World → Prop} {W : World} (s x : Operand)
    (ho : o.op = .call { callee := .builtin .append, args := #[s, x], argTypes := #[85, 85] }) (B : Nat) (v : Value) (l : List ByteArray) (e : ByteArray) (q c : Nat)
    (hs : a.eval s = v) (hv : OwnS W B v l) (hn : l.length < 4398046511104) (hB : B ≤ W.heap.size) (hx : a.eval x = .slice (some ⟨q, 0, none⟩) 1 c) (hq : W.cell? ⟨q, 0, none⟩ = some (.string e))
    (h : ∀ g cap w', OwnS w' B (.slice (some ⟨g, 0, none⟩) (l.length + 1) cap) (l ++ [e]) → Only (fun k => v.ownBlock = some k) W w' → (v.ownBlock = some g ∨ g = W.heap.size) → K (a.put o.dst (.slice (some ⟨g, 0, none⟩) (l.length + 1) cap)) w') : o.wp Tryd.prog a W K Q := by
  obtain ⟨i0, hi, hz, hsz, hb⟩ := infoStr
  refine wp_append_lies _ s x 85 ho B 9 i0 _ 1 16 Tryd.underlying85 hi hz hsz hb rfl (by decide) v l.length (l.map .string) hs hv ⟨q, 0, none⟩ 1 c [.string e] hx rfl (fun j u hu => ?_) (fun u hu => ?_) (by decide) (by unfold maxLen; omega) (by omega) hB W.heap.size rfl ?_
  · match j with
    | 0 => simp at hu; rw [← hu]; exact hq
    | j + 1 => simp at hu
  · simp only [List.mem_cons, List.not_mem_nil, or_false] at hu
    rcases hu with rfl
    rfl
  · intro g cap w' h1 h2 h3 _
    refine h g cap w' ?_ (grown_only h2) h3
    unfold OwnS
    rw [List.map_append, List.length_append]
    exact h1
theorem wpList_append_str {ops : Array Oper} {rest : List Oper} {o : Oper} {a : Act} {Q : Exit → Act → World → Prop} {W : World} (hgd : o.guard = none) (s x : Operand)
    (ho : o.op = .call { callee := .builtin .append, args := #[s, x], argTypes := #[85, 85] }) (B : Nat) (v : Value) (l : List ByteArray) (e : ByteArray) (q c : Nat)
    (hs : a.eval s = v) (hv : OwnS W B v l) (hn : l.length < 4398046511104) (hB : B ≤ W.heap.size) (hx : a.eval x = .slice (some ⟨q, 0, none⟩) 1 c) (hq : W.cell? ⟨q, 0, none⟩ = some (.string e))
    (h : ∀ g cap w', OwnS w' B (.slice (some ⟨g, 0, none⟩) (l.length + 1) cap) (l ++ [e]) → Only (fun k => v.ownBlock = some k) W w' → (v.ownBlock = some g ∨ g = W.heap.size) → wpList Tryd.prog ops Q rest (a.put o.dst (.slice (some ⟨g, 0, none⟩) (l.length + 1) cap)) w') : wpList Tryd.prog ops Q (o :: rest) a W :=
  wpList_plain hgd fun _ hK => wp_append_str s x ho B v l e q c hs hv hn hB hx hq (fun g cap w' h1 h2 h3 => hK _ _ (h g cap w' h1 h2 h3))
theorem placeOf_lt {cs : List (List UInt8)} (h : Cps cs) {i : Nat} (hi : i < cs.length) : placeOf cs i < placeOf cs (i + 1) := by
  unfold placeOf
  rw [List.take_add_one, List.getElem?_eq_getElem hi, List.flatten_append, List.length_append]
  have := List.length_pos_iff.2 (h _ (List.getElem_mem hi)).ne
  simp only [Option.toList_some, List.flatten_cons, List.flatten_nil, List.append_nil]
  omega
/-- the texts that chars makes -/
def chS (s : ByteArray) (cs : List (List UInt8)) (n : Nat) : List ByteArray := (List.range n).map fun i => Utf8.encode (Utf8.decode s (placeOf cs i)).1
theorem chS_len (s : ByteArray) (cs : List (List UInt8)) (n : Nat) : (chS s cs n).length = n := by simp [chS]
theorem chS_next (s : ByteArray) (cs : List (List UInt8)) (n : Nat) : chS s cs (n + 1) = chS s cs n ++ [Utf8.encode (Utf8.decode s (placeOf cs n)).1] := by simp [chS, List.range_succ]
/-- the loop's state: an iterator and an own row -/
structure ChI (w wr : World) (s : ByteArray) (cs : List (List UInt8)) (v : Value) (i : Nat) : Prop where
  it : wr.heap[w.heap.size]? = some (.stringIter s (placeOf cs i))
  own : OwnS wr w.heap.size v (chS s cs i)
  bel : Below w.heap.size w wr
theorem ChI.pos {w wr : World} {s : ByteArray} {cs : List (List UInt8)} {v : Value} {i : Nat} (h : ChI w wr s cs v i) : wr.iterPos w.heap.size = placeOf cs i := by unfold World.iterPos; rw [h.it]
theorem own_it {w : World} {B : Nat} {v : Value} {l : List ByteArray} (h : OwnS w B v l) {k : Nat} {s : ByteArray} {pos : Nat} (hk : w.heap[k]? = some (.stringIter s pos)) : v.ownBlock ≠ some k := by
  intro e
  rcases h.2 with ⟨rfl, _⟩ | ⟨g, c, cur, rfl, _, e', _⟩
  · cases e
  · obtain rfl : g = k := by simpa [Value.ownBlock] using e
    rw [hk] at e'
    cases e'
theorem ChI.next {w wr : World} {s : ByteArray} {cs : List (List UInt8)} {v : Value} {i : Nat} (h : ChI w wr s cs v i) (ht : Tx s cs) (hi : i < cs.length) :
    (wr.iterAt w.heap.size s (placeOf cs i + (Utf8.decode s (placeOf cs i)).2)).heap[w.heap.size]? = some (.stringIter s (placeOf cs (i + 1))) ∧ OwnS (wr.iterAt w.heap.size s (placeOf cs i + (Utf8.decode s (placeOf cs i)).2)) w.heap.size v (chS s cs i) ∧ Below w.heap.size w (wr.iterAt w.heap.size s (placeOf cs i + (Utf8.decode s (placeOf cs i)).2)) := by
  rw [← (placeOf_next ht hi).1]
  refine ⟨Lib.iterAt_heap _ _ _ _ _ h.it, ?_, Lib.below_iterAt h.bel (Nat.le_refl _) _ _⟩
  have hne := own_it h.own h.it
  obtain ⟨h1, h2⟩ := h.own
  refine ⟨h1, ?_⟩
  rcases h2 with h2 | ⟨g, c, cur, e1, e2, e3, e4⟩
  · exact .inl h2
  · refine .inr ⟨g, c, cur, e1, e2, ?_, e4⟩
    rw [Lib.iterAt_other _ _ _ _ _ (fun e => hne (by rw [e1, e]; rfl))]
    exact e3
set_option maxRecDepth 100000 in
set_option maxHeartbeats 4000000 in
theorem chars_any (s : ByteArray) (cs : List (List UInt8)) (w : World) (ht : Tx s cs) (hs : cs.length ≤ 1099511627776) :
    Calls Tryd.prog 71 #[.string s] w fun r w' => ∃ v, r = .returned v ∧ OwnS w' w.heap.size v (chS s cs cs.length) ∧ Below w.heap.size w w' := by
  have HT := hide ht
  have HS := hide hs
  obtain ⟨n, hn⟩ : ∃ n, cs.length = n := ⟨_, rfl⟩
  have HN := hide hn
  clear ht hs hn
  go_enter Tryd.func71, Tryd.ntmps71
  go_wp2_with fail
  go_loopw [3] (fun v wr => ∃ i : Nat, i ≤ n ∧ Hid (ChI w wr s cs v i)) (fun _ wr => s.size - wr.iterPos w.heap.size)
  case atStart =>
    exact ⟨0, by omega, hide ⟨by rw [placeOf_zero]; exact World.iter_heap w s 0, World.ownsRow_nil _ _ _ _, (Below.refl _ _).alloc (Nat.le_refl _) (.stringIter s 0)⟩⟩
  case round =>
    obtain ⟨i, hi, HC⟩ := hrel
    have HPO := hide (unhide HC).pos
    by_cases hlt : i < n
    · obtain ⟨q1, q2⟩ := placeOf_next (unhide HT) (show i < cs.length by rw [unhide HN]; exact hlt)
      have hnx := Lib.run_next_any_at (P := Tryd.prog) wr w.heap.size s (placeOf cs i) 0 (unhide HC).it q2
      have HNX := hide ((unhide HC).next (unhide HT) (by rw [unhide HN]; exact hlt))
      have HSL := hide (chS_len s cs i)
      have HCN := hide (chS_next s cs i)
      have HQ := hide (And.intro q1 q2)
      obtain ⟨en, hen⟩ : ∃ z, Utf8.encode (Utf8.decode s (placeOf cs i)).1 = z := ⟨_, rfl⟩
      rw [hen] at HCN
      obtain ⟨wi, hwi⟩ : ∃ z, wr.iterAt w.heap.size s (placeOf cs i + (Utf8.decode s (placeOf cs i)).2) = z := ⟨_, rfl⟩
      rw [hwi] at hnx HNX
      clear hwi
      obtain ⟨rv, hrv⟩ : ∃ z, (Utf8.decode s (placeOf cs i)).1 = z := ⟨_, rfl⟩
      rw [hrv] at hnx hen
      clear hrv
      have hbA : Below wi.heap.size wi (wi.alloc (.cells #[.string en] 9)) := (Below.refl _ _).alloc (Nat.le_refl _) _
      have HOA := hide ((unhide HNX).2.1.call hbA)
      have HIA : Hid ((wi.alloc (.cells #[.string en] 9)).heap[w.heap.size]? = some (.stringIter s (placeOf cs (i + 1)))) := hide (by rw [hbA.block _ (Array.getElem?_eq_some_iff.1 (unhide HNX).1).1]; exact (unhide HNX).1)
      have HBA := hide ((unhide HNX).2.2.trans (hbA.mono (unhide HNX).2.2.size))
      have HRA := hide (RowAt.new wi 9 [.string en])
      clear hbA q1 q2 HC HNX
      go_wp2_with (at_builtin; refine unhide ?_)
      unfold Hid
      refine wpList_append_str rfl _ _ rfl w.heap.size _ (chS s cs i) en wi.heap.size 1 rfl (unhide HOA) ?c0 (unhide HBA).size rfl ((unhide HRA).cell 0) (fun g cap w3 hv ho hk => ?_)
      case c0 => rw [unhide HSL]; have := unhide HS; have := unhide HN; omega
      have HO3 := hide hv
      have hne := own_it (unhide HOA) (unhide HIA)
      have HI3 : Hid (w3.heap[w.heap.size]? = some (.stringIter s (placeOf cs (i + 1)))) := hide (by rw [ho.block _ (Array.getElem?_eq_some_iff.1 (unhide HIA)).1 hne]; exact unhide HIA)
      have HB3 := hide ((unhide HBA).trans (ho.below (unhide HBA).size (fun k hk => ((unhide HOA).lt k hk).1)))
      clear hv ho hk HOA HIA HBA HRA hne hnx
      rw [unhide HSL] at HO3
      rw [← unhide HCN] at HO3
      go_wp2_with fail
      refine ⟨⟨i + 1, by omega, hide ⟨unhide HI3, ?_, unhide HB3⟩⟩, ?_⟩
      · rw [unhide HSL]; exact unhide HO3
      · have p3 : w3.iterPos w.heap.size = placeOf cs (i + 1) := by unfold World.iterPos; rw [unhide HI3]
        rw [p3, unhide HPO]
        have h1 := (unhide HQ).2
        have h2 := placeOf_lt (unhide HT).cps (show i < cs.length by rw [unhide HN]; exact hlt)
        omega
    · obtain rfl : n = i := by omega
      have HE : Hid (¬ placeOf cs n < s.size) := hide (by rw [(unhide HT).size, ← unhide HN]; unfold placeOf; rw [List.take_of_length_le (Nat.le_refl _)]; omega)
      have hnx := Lib.run_next_end_at (P := Tryd.prog) wr w.heap.size s (placeOf cs n) 0 (unhide HC).it (unhide HE)
      go_wp2_with fail
      go_ret
      exact ⟨_, rfl, by rw [unhide HN]; exact (unhide HC).own, (unhide HC).bel⟩
end Go.Proofs.YtidblnjohkadhaaDoor
