/- The example. -/
import Derived.Test.YtmkpphkdaiienaaCOu
namespace Go.Proofs.Ytmkpphkdaiienaa
set_option linter.unusedVariables false
set_option linter.unusedSimpArgs false
open Go.ChangeShapes Go.WideShapes Go.ChangeAt Go.RowKit Go.Joins Go.Deep

structure Two (w : World) (B g m : Nat) (vq : Value) (s : CS) (B' g' m' : Nat) (vq' : Value) (s' : CS) : Prop where
  l : Ch w B g m vq s
  r : Ch w B' g' m' vq' s'
  g : g ≠ g'
  m : m ≠ m'
  q : ∀ k, vq.ownBlock = some k → vq'.ownBlock ≠ some k
theorem Two.swap {w : World} {B g m B' g' m' : Nat} {vq vq' : Value} {s s' : CS} (h : Two w B g m vq s B' g' m' vq' s') : Two w B' g' m' vq' s' B g m vq s :=
  ⟨h.r, h.l, h.g.symm, h.m.symm, fun k h1 h2 => h.q k h2 h1⟩
theorem Two.call {w w1 : World} {B g m B' g' m' : Nat} {vq vq' : Value} {s s' : CS} (h : Two w B g m vq s B' g' m' vq' s') (hb : Below w.heap.size w w1) : Two w1 B g m vq s B' g' m' vq' s' :=
  ⟨h.l.call hb, h.r.call hb, h.g, h.m, h.q⟩
theorem Two.left {w w1 : World} {B g m B' g' m' : Nat} {vq vq1 vq' : Value} {s s1 s' : CS} (h : Two w B g m vq s B' g' m' vq' s') (c : Ch w1 B g m vq1 s1) (t : Turn w w1 g m vq vq1) : Two w1 B g m vq1 s1 B' g' m' vq' s' := by
  refine ⟨c, h.r.other h.l h.g.symm h.m.symm (fun k h1 h2 => h.q k h2 h1) t.1, h.g, h.m, fun k hk h2 => ?_⟩
  rcases t.2 k hk with e | e
  · exact h.q k e h2
  · have := h.r.lt.q k h2
    omega
theorem Two.right {w w1 : World} {B g m B' g' m' : Nat} {vq vq1 vq' : Value} {s s1 s' : CS} (h : Two w B g m vq s B' g' m' vq' s') (c : Ch w1 B' g' m' vq1 s1) (t : Turn w w1 g' m' vq' vq1) : Two w1 B g m vq s B' g' m' vq1 s1 := (h.swap.left c t).swap
theorem two_new {w w1 : World} {B g m g' m' : Nat} {vq : Value} {s s' : CS} (h : Ch w B g m vq s) (c : Ch w1 w.heap.size g' m' (.slice none 0 0) s') (hb : Below w.heap.size w w1) : Two w1 B g m vq s w.heap.size g' m' (.slice none 0 0) s' := by
  have l := h.lt
  have := c.gB
  have := c.mB
  exact ⟨h.call hb, c, by have := l.g; omega, by have := l.m; omega, fun k _ h2 => by cases h2⟩
theorem Ok.new (c : Int) (h : c ≠ 0) : (newS c).Ok := ⟨by simp [newS], by simp [newS], by simp [newS], by simp [newS], by simp [newS], h⟩
def sA1 (v : Value) : CS := ⟨2, [⟨1, v, [120], false, 0⟩], 1, [], false, 1⟩
def sA2 (v : Value) : CS := ⟨2, [⟨1, v, [120], true, 0⟩], 1, [], false, 1⟩
theorem okA1 (v : Value) : (sA1 v).Ok := ⟨by simp [sA1], by simp [sA1], by simp [sA1], by simp [sA1], by simp [sA1], by simp [sA1]⟩
theorem okA2 (v : Value) : (sA2 v).Ok := ⟨by simp [sA2], by simp [sA2], by simp [sA2], by simp [sA2], by simp [sA2], by simp [sA2]⟩
def sB1 : CS := ⟨1, [], 2, [], true, 1⟩
def sB2 : CS := ⟨1, [], 2, [], false, 1⟩
def sA3 : CS := ⟨2, [], 1, [], false, 1⟩
theorem SendR.shape {B g m : Nat} {vq : Value} {s : CS} {l : List Nat} {w w' : World} {r : Ending} (h : SendR B g m vq s l w r w') : r = .returned (.int .i64 (sendE s l.length)) ∧ ∃ v vq', Ch w' B g m vq' (sendS s v l) ∧ Turn w w' g m vq vq' := h
theorem TakeR.shape {B g m : Nat} {vq : Value} {s : CS} {c q a : Int} {b : List Nat} {w w' : World} {r : Ending} (h : TakeR B g m vq s c q a b w r w') : ∃ l v vq', r = .returned (.tuple #[l, .int .i64 (takeE s c q a b.length)]) ∧ TakeI w w' B g m vq s c q a b l v vq' := h
theorem key1 {L : List Fm} {k : Key} (h : L.map Fm.key = [k]) : ∃ f, L = [f] ∧ f.key = k := by
  match L, h with
  | [f], h => exact ⟨f, rfl, by simpa using h⟩
theorem fcell {w : World} {B n : Nat} {a : Option Addr} {c : Nat} {q : List Fm} (h : w.ownsRow B 34 4 (.slice a n c) q.length (fcs q)) (hq : 0 < q.length) :
    ∃ gq, a = some ⟨gq, 0, none⟩ ∧ n = q.length ∧ n ≤ c ∧ c ≤ maxLen ∧ B ≤ gq ∧ ∀ (i : Nat) (p : Fm), q[i]? = some p → ∀ f, f < 4 → w.cell? ⟨gq, i * 4 + f, none⟩ = p.cs[f]? := by
  rcases h.2 with ⟨_, h0⟩ | ⟨gq, cap, cur, e, hB, hr, h1, h2, h3, h4⟩
  · omega
  · injection e with e1 e2 e3
    subst e1 e2 e3
    refine ⟨gq, rfl, rfl, h1, h2, hB, fun i p hp f hf => ?_⟩
    have hi : i < q.length := (List.getElem?_eq_some_iff.1 hp).1
    have hr' : RowAt w gq 34 cur.toList := hr
    rw [hr'.cell, ← fcs_get q i f p hp hf, ← h4, List.getElem?_take_of_lt (by omega)]
theorem scell {w : World} {B n : Nat} {a : Option Addr} {c : Nat} {q : List Er} (h : w.ownsRow B 32 1 (.slice a n c) q.length (q.map Er.v)) (hq : 0 < q.length) :
    ∃ gq, a = some ⟨gq, 0, none⟩ ∧ n = q.length ∧ n ≤ c ∧ ∀ (i : Nat) (p : Er), q[i]? = some p → w.cell? ⟨gq, i, none⟩ = some p.v := by
  rcases h.2 with ⟨_, h0⟩ | ⟨gq, cap, cur, e, hB, hr, h1, h2, h3, h4⟩
  · omega
  · injection e with e1 e2 e3
    subst e1 e2 e3
    refine ⟨gq, rfl, rfl, h1, fun i p hp => ?_⟩
    have hi : i < q.length := (List.getElem?_eq_some_iff.1 hp).1
    have hr' : RowAt w gq 32 cur.toList := hr
    have : (q.map Er.v)[i]? = some p.v := by rw [List.getElem?_map, hp]; rfl
    rw [hr'.cell, ← this, ← h4, List.getElem?_take_of_lt (by omega)]
theorem conv_late {w : World} {g : Nat} {x : Value} (h : w.heap[g]? = some (.cells #[x] 5)) : (convert 32 32 (.slice (some ⟨g, 0, none⟩) 1 1)).run Try.prog w = .ok (.slice (some ⟨g, 0, none⟩) 1 1) (w.freeze ⟨g, 1, none⟩ 1) := by
  have hsh : w.shape? g = some (5, 1) := by simp [World.shape?, h]
  simp [convert, run_underlying Try.underlying32, run_underlying Try.underlying5, markStringish, hsh]
theorem heap_freeze (w : World) (g k i : Nat) (hi : g ≠ i) : (w.freeze ⟨g, k, none⟩ 1).heap[i]? = w.heap[i]? := by
  unfold World.freeze
  rw [if_neg (by decide)]
  show (w.heap.modify g _)[i]? = _
  rw [Array.getElem?_modify, if_neg hi]
theorem bfreeze {B g k : Nat} {w0 w : World} (h : Below B w0 w) (hg : B ≤ g) : Below B w0 (w.freeze ⟨g, k, none⟩ 1) := by
  have e : ∀ i, i < B → (w.freeze ⟨g, k, none⟩ 1).heap[i]? = w.heap[i]? := fun i hi => heap_freeze w g k i (by omega)
  unfold World.freeze at *
  rw [if_neg (by decide)] at *
  exact h.trans ⟨rfl, rfl, rfl, by simp, e⟩
theorem byt_freeze {w : World} {g : Nat} {x : Nat} (h : w.heap[g]? = some (.cells #[.int .u8 (x : Int)] 5)) : Byt (w.freeze ⟨g, 1, none⟩ 1) (.slice (some ⟨g, 0, none⟩) 1 1) [x] := by
  refine .inr ⟨_, 1, rfl, by simp, by unfold maxLen; omega, fun i y hy => ?_⟩
  match i, hy with
  | 0, hy =>
    obtain rfl : x = y := by simpa using hy
    have : (w.freeze ⟨g, 1, none⟩ 1).heap[g]? = some (.cells #[.int .u8 (x : Int)] 5 (1, 2)) := by
      unfold World.freeze
      rw [if_neg (by decide)]
      show (w.heap.modify g _)[g]? = _
      rw [Array.getElem?_modify, if_pos rfl, h]
      rfl
    show World.cell? _ ⟨g, 0 + 0, none⟩ = _
    simp [World.cell?, this]
theorem Ch.low1 {w w' : World} {B g m : Nat} {vq : Value} {s : CS} (h : Ch w B g m vq s) (ho : Only (fp g m vq) w w') : Below B w w' := h.low ho (by have := h.gB; have := h.row.lt; omega)
set_option maxRecDepth 100000 in
set_option maxHeartbeats 4000000 in
theorem awake_any (w : World) : Calls Try.prog 13 #[] w fun r w' => r = .returned (.bool true) ∧ Below w.heap.size w w' := by
  go_enter Try.func13, Try.ntmps13
  go_wp2_with fail
  refine Calls.mono (fresh_any w) ?_
  intro r w1 h1
  obtain ⟨g, m, rfl, c1, b1⟩ := h1.shape
  have HC1 := hide c1
  have HB1 := hide b1
  clear h1 c1 b1
  go_wp2_with fail
  refine Calls.mono (fresh_any w1) ?_
  intro r w2 h2
  obtain ⟨g', m', rfl, c2, b2⟩ := h2.shape
  have HT := hide (two_new (unhide HC1) c2 b2)
  have HB := hide ((unhide HB1).trans (b2.mono (unhide HB1).size))
  obtain ⟨B1, hB1⟩ : ∃ z, w1.heap.size = z := ⟨_, rfl⟩
  have HBL : Hid (w.heap.size ≤ B1) := hide (by rw [← hB1]; exact (unhide HB1).size)
  rw [hB1] at HT
  clear h2 c2 b2 hB1 HC1 HB1
  have hcs := conv_late (heap_alloc_new w2 (.cells #[.int .u8 120] 5))
  go_wp2_with fail
  have b3 : Below w2.heap.size w2 ((w2.alloc (.cells #[.int .u8 120] 5)).freeze ⟨w2.heap.size, 1, none⟩ 1) := bfreeze ((Below.refl _ _).alloc (Nat.le_refl _) _) (Nat.le_refl _)
  have HT3 := hide ((unhide HT).call b3)
  have HB3 := hide ((unhide HB).trans (b3.mono (unhide HB).size))
  have HX : Hid (Byt ((w2.alloc (.cells #[.int .u8 120] 5)).freeze ⟨w2.heap.size, 1, none⟩ 1) (.slice (some ⟨w2.heap.size, 0, none⟩) 1 1) [120]) := hide (byt_freeze (x := 120) (heap_alloc_new w2 _))
  have HL3 : Hid (w.heap.size ≤ ((w2.alloc (.cells #[.int .u8 120] 5)).freeze ⟨w2.heap.size, 1, none⟩ 1).heap.size) := hide (unhide HB3).size
  clear hcs
  obtain ⟨w3, hw3⟩ : ∃ z, (w2.alloc (.cells #[.int .u8 120] 5)).freeze ⟨w2.heap.size, 1, none⟩ 1 = z := ⟨_, rfl⟩
  rw [hw3] at HT3 HB3 HX HL3 ⊢
  clear hw3 b3 HT HB
  refine Calls.mono (send_any w.heap.size g m _ _ (newS 1) [120] w3 (unhide HT3).l (Ok.new 1 (by decide)) (unhide HX) (unhide HL3) (by decide)) ?_
  intro r w4 h4
  obtain ⟨e4, v, vq, c4, t4⟩ := h4.shape
  rw [show sendE (newS 1) ([120] : List Nat).length = 0 from rfl] at e4
  subst e4
  have HT4 : Hid (Two w4 w.heap.size g m vq (sA1 v) B1 g' m' (.slice none 0 0) (newS 1)) := hide ((unhide HT3).left c4 t4)
  have HB4 := hide ((unhide HB3).trans ((unhide HT3).l.low1 t4.1))
  clear h4 c4 t4 HT3 HB3 HX HL3
  go_wp2_with fail
  refine Calls.mono (out_any w.heap.size g m vq (sA1 v) w4 (unhide HT4).l (okA1 v) (fun p hp => by obtain rfl := List.mem_singleton.1 hp; simp) (fun p hp => by obtain rfl := List.mem_singleton.1 hp; simp)) ?_
  intro r w5 h5
  obtain ⟨L, l5, rfl, i5⟩ := h5.shape
  obtain ⟨f, rfl, hf⟩ := key1 (k := (1, 1, 0, [120])) (i5.key.trans rfl)
  obtain ⟨fc, fs, fa, fv, fb⟩ := f
  simp only [Fm.key, Prod.mk.injEq] at hf
  obtain ⟨rfl, rfl, rfl, rfl⟩ := hf
  have HT5 : Hid (Two w5 w.heap.size g m vq (sA2 v) B1 g' m' (.slice none 0 0) (newS 1)) := hide ((unhide HT4).left i5.ch i5.tu)
  have HB5 := hide ((unhide HB4).trans ((unhide HT4).l.low1 i5.tu.1))
  have HV5 : Hid (Own w5 fv [120]) := hide (own_base (i5.bod _ (List.mem_singleton.2 rfl)))
  obtain ⟨a5, k5, hl5⟩ := own_one i5.own
  subst hl5
  obtain ⟨q5, rfl, -, -, -, -, hx⟩ := fcell i5.own (by simp)
  obtain ⟨av, cv, hfv⟩ := own_one (unhide HV5)
  subst hfv
  have x0 : w5.cell? ⟨q5, 0, none⟩ = some (.int .i64 1) := hx 0 _ rfl 0 (by decide)
  have x1 : w5.cell? ⟨q5, 1, none⟩ = some (.int .i64 1) := hx 0 _ rfl 1 (by decide)
  have x2 : w5.cell? ⟨q5, 2, none⟩ = some (.int .i64 0) := hx 0 _ rfl 2 (by decide)
  have x3 : w5.cell? ⟨q5, 3, none⟩ = some (.slice av 1 cv) := hx 0 _ rfl 3 (by decide)
  clear h5 i5 hx HT4 HB4
  go_wp2_with fail
  refine Calls.mono (take_any B1 g' m' (.slice none 0 0) (.slice av 1 cv) (newS 1) 1 1 0 [120] w5 (unhide HT5).r (Ok.new 1 (by decide)) (fun x hx => by cases hx) ⟨(unhide HV5).byt, .inr (.inr (unhide HV5))⟩ (by decide) (by decide) (by decide)) ?_
  clear x0 x1 x2 x3
  intro r w6 h6
  obtain ⟨l6, v6, vq6, e6, i6⟩ := h6.shape
  rw [show takeE (newS 1) 1 1 0 ([120] : List Nat).length = 0 from rfl] at e6
  subst e6
  have HT6 : Hid (Two w6 w.heap.size g m vq (sA2 v) B1 g' m' vq6 sB1) := hide ((unhide HT5).right i6.ch i6.tu)
  have HB6 := hide ((unhide HB5).trans (((unhide HT5).r.low1 i6.tu.1).mono (unhide HBL)))
  have ho6 : takeO (newS 1) 1 1 0 [120] v6 = [⟨1, v6, [120]⟩] := rfl
  have hb6 := i6.bod ⟨1, v6, [120]⟩ (by rw [ho6]; exact List.mem_singleton.2 rfl)
  have HO6 := hide i6.own
  rw [ho6] at HO6
  have HV6 : Hid (Own w6 v6 [120]) := hide hb6
  clear h6 i6 hb6 ho6 HT5 HB5 HV5
  obtain ⟨a6, k6, hl6⟩ := own_one (unhide HO6)
  subst hl6
  go_wp2_with fail
  refine Calls.mono (out_any B1 g' m' vq6 sB1 w6 (unhide HT6).r ⟨by decide, by decide, by decide, by decide, by decide, by decide⟩ (fun p hp => by cases hp) (fun p hp => by cases hp)) ?_
  intro r w7 h7
  obtain ⟨L, l7, rfl, i7⟩ := h7.shape
  obtain ⟨f, rfl, hf⟩ := key1 (k := (1, 0, 1, [])) (i7.key.trans rfl)
  obtain ⟨fc, fs, fa, fv7, fb⟩ := f
  simp only [Fm.key, Prod.mk.injEq] at hf
  obtain ⟨rfl, rfl, rfl, rfl⟩ := hf
  have HT7 : Hid (Two w7 w.heap.size g m vq (sA2 v) B1 g' m' vq6 sB2) := hide ((unhide HT6).right i7.ch i7.tu)
  have HB7 := hide ((unhide HB6).trans (((unhide HT6).r.low1 i7.tu.1).mono (unhide HBL)))
  have HV7 : Hid (Own w7 fv7 []) := hide (own_base (i7.bod _ (List.mem_singleton.2 rfl)))
  have HO7 : Hid (w7.ownsRow w5.heap.size 32 1 (.slice a6 1 k6) 1 [v6]) := hide (own_only (unhide HO6) i7.tu.1 (fun k hk hf => by
    rcases hf with rfl | rfl | e
    · exact tag_ne (unhide HO6) (unhide HT6).r.row (by decide) hk
    · exact own_map (unhide HO6) (unhide HT6).r.map hk
    · exact own_ne (unhide HO6) (unhide HT6).r.own (by decide) k hk e))
  have HV8 : Hid (Own w7 v6 [120]) := hide ((unhide HT6).r.keep i7.tu.1 (unhide HV6))
  obtain ⟨a7, k7, hl7⟩ := own_one i7.own
  subst hl7
  obtain ⟨q7, rfl, -, -, -, -, hx⟩ := fcell i7.own (by simp)
  obtain ⟨a8, k8, hv7⟩ := own_one (unhide HV7)
  subst hv7
  have x0 : w7.cell? ⟨q7, 0, none⟩ = some (.int .i64 1) := hx 0 _ rfl 0 (by decide)
  have x1 : w7.cell? ⟨q7, 1, none⟩ = some (.int .i64 0) := hx 0 _ rfl 1 (by decide)
  have x2 : w7.cell? ⟨q7, 2, none⟩ = some (.int .i64 1) := hx 0 _ rfl 2 (by decide)
  have x3 : w7.cell? ⟨q7, 3, none⟩ = some (.slice a8 0 k8) := hx 0 _ rfl 3 (by decide)
  obtain ⟨q6, rfl, -, -, hy⟩ := scell (q := [⟨1, v6, [120]⟩]) (unhide HO7) (by simp)
  have y0 : w7.cell? ⟨q6, 0, none⟩ = some v6 := hy 0 _ rfl
  obtain ⟨a9, k9, hv6⟩ := own_one (unhide HV8)
  subst hv6
  have hcv : (convert 32 9 (.slice a9 1 k9)).run Try.prog w7 = .ok (.string (strOf [120])) w7 := byt_convert (unhide HV8).byt (by decide)
  have hst : strOf [120] = { data := #[120] } := rfl
  rw [hst] at hcv
  clear h7 i7 hx hy hst HT6 HB6 HO6 HV6
  go_wp2_with fail
  refine Calls.mono (take_any w.heap.size g m vq (.slice a8 0 k8) (sA2 v) 1 0 1 [] w7 (unhide HT7).l (okA2 v) (fun x hx => by cases hx) ⟨(unhide HV7).byt, .inr (.inr (unhide HV7))⟩ (by decide) (by decide) (by simp [sA2])) ?_
  clear x0 x1 x2 x3 y0 hcv
  intro r w8 h8
  obtain ⟨l8, v8, vq8, e8, i8⟩ := h8.shape
  rw [show takeE (sA2 v) 1 0 1 ([] : List Nat).length = 0 from rfl] at e8
  subst e8
  have HT8 : Hid (Two w8 w.heap.size g m vq8 sA3 B1 g' m' vq6 sB2) := hide ((unhide HT7).left i8.ch i8.tu)
  have HB8 := hide ((unhide HB7).trans ((unhide HT7).l.low1 i8.tu.1))
  clear h8 i8 HT7 HB7 HV7 HO7 HV8
  obtain ⟨al, kl, hal⟩ := own_one (unhide HT8).l.own
  obtain ⟨ar, kr, har⟩ := own_one (unhide HT8).r.own
  subst hal har
  go_wp2_with fail
  refine Calls.mono (calm_ok g 1 al 0 kl false w8 ((unhide HT8).l.row.cell 5) (by decide) ((unhide HT8).l.row.cell 1) ((unhide HT8).l.row.cell 4)) ?_
  rintro r w9 ⟨rfl, rfl⟩
  go_wp2_with fail
  refine Calls.mono (calm_ok g' 1 ar 0 kr false w8 ((unhide HT8).r.row.cell 5) (by decide) ((unhide HT8).r.row.cell 1) ((unhide HT8).r.row.cell 4)) ?_
  rintro r w9 ⟨rfl, rfl⟩
  go_wp2_with fail
  refine Calls.mono (taken_ok g' 1 2 w8 ((unhide HT8).r.row.cell 5) (by decide) ((unhide HT8).r.row.cell 2) (by decide) (by decide)) ?_
  rintro r w9 ⟨rfl, rfl⟩
  go_wp2_with fail
  go_ret
  exact ⟨rfl, unhide HB8⟩
end Go.Proofs.Ytmkpphkdaiienaa
