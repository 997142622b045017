/- What a list of calls makes of an end, and the frames that leave. -/
import Derived.Test.YtmkpphkdaiienaaCTx0
import Derived.Test.YtmkpphkdaiienaaCPm
import Derived.Test.YtmkpphkdaiienaaCSt
import Derived.Test.YtmkpphkdaiienaaCFl
namespace Go.Proofs.Ytmkpphkdaiienaa
set_option linter.unusedVariables false
set_option linter.unusedSimpArgs false
open Go.ChangeShapes Go.WideShapes Go.ChangeAt Go.RowKit Go.Joins Go.Deep

theorem own_none' {w : World} {B s n c : Nat} {e : TypeId} {xs : List Value} (h : w.ownsRow B e s (.slice none n c) n xs) : n = 0 := by
  rcases h.2 with ⟨_, h0⟩ | ⟨g, c', cur, e1, _⟩
  · exact h0
  · cases e1
theorem own_news' {w : World} {B s n c : Nat} {e : TypeId} {a : Option Addr} {xs : List Value} (h : w.ownsRow B e s (.slice a n c) n xs) : ∀ b, a = some b → ∀ (j : Nat) (u : Value), xs[j]? = some u → w.cell? (b.add j) = some u := by
  intro b hb j u hu
  rcases h.2 with ⟨e1, _⟩ | ⟨g, c', cur, e1, _, hr, h1, h2, h3, h4⟩
  · rw [hb] at e1; cases e1
  · rw [hb] at e1
    injection e1 with e1 e2 e3
    injection e1 with e1
    subst e1
    have hr' : RowAt w g e cur.toList := hr
    have hj : j < n * s := by rw [← h.1]; exact (List.getElem?_eq_some_iff.1 hu).1
    rw [add_plain, Nat.zero_add, hr'.cell, ← hu, ← h4, List.getElem?_take_of_lt hj]
structure Pl (w wr : World) (B g m : Nat) (vq : Value) (N : Nat) (t : CS) (ks : List Key) (vr : Value) (s : CS) (lf : Value) (LF : List Fm) : Prop where
  ch : Ch wr B g m vr s
  tu : Turn w wr g m vq vr
  inv : Inv N 1 s
  sim : Sim s t
  own : wr.ownsRow w.heap.size 34 4 lf LF.length (fcs LF)
  bod : ∀ f ∈ LF, Own wr f.v f.body
  key : LF.map Fm.key = ks
theorem Pl.step {w wr w' : World} {B g m : Nat} {vq : Value} {N N' : Nat} {t t' : CS} {ks : List Key} {vr vr' : Value} {s s' : CS} {lf : Value} {LF : List Fm} (h : Pl w wr B g m vq N t ks vr s lf LF)
    (c : Ch w' B g m vr' s') (tu : Turn wr w' g m vr vr') (i : Inv N' 1 s') (si : Sim s' t') : Pl w w' B g m vq N' t' ks vr' s' lf LF :=
  ⟨c, h.tu.trans tu, i, si, own_only h.own tu.1 (avoid_fp h.ch (by decide) (by decide) _ _ _ _ _ h.own), fun f hf => h.ch.keep tu.1 (h.bod f hf), h.key⟩
theorem Pl.call {w wr w' : World} {B g m : Nat} {vq : Value} {N : Nat} {t : CS} {ks : List Key} {vr : Value} {s : CS} {lf : Value} {LF : List Fm} (h : Pl w wr B g m vq N t ks vr s lf LF) (hb : Below wr.heap.size wr w') : Pl w w' B g m vq N t ks vr s lf LF :=
  ⟨h.ch.call hb, h.tu.trans (Turn.below hb), h.inv, h.sim, own_call h.own hb, fun f hf => own_call (h.bod f hf) hb, h.key⟩
theorem Pl.app {w wr w' : World} {B g m : Nat} {vq : Value} {N : Nat} {t : CS} {ks k2 : List Key} {vr lf' : Value} {s : CS} {lf : Value} {LF L2 : List Fm} (h : Pl w wr B g m vq N t ks vr s lf LF)
    (o : w'.ownsRow w.heap.size 34 4 lf' (LF.length + L2.length) (fcs LF ++ fcs L2)) (ho : Only (fun k => lf.ownBlock = some k) wr w') (hb : ∀ f ∈ L2, Own wr f.v f.body) (hk : L2.map Fm.key = k2) : Pl w w' B g m vq N t (ks ++ k2) vr s lf' (LF ++ L2) := by
  have a5 := avoid_own h.own (e := 5) (by decide)
  refine ⟨h.ch.away ho (fun e => tag_ne h.own h.ch.row (by decide) e) (fun e => own_map h.own h.ch.map e) (avoid_own h.own (by decide)) a5, ⟨h.tu.1.next ho (fun k hk => .inr ?_), h.tu.2⟩, h.inv, h.sim, by rw [List.length_append, fcs_app]; exact o, fun f hf => ?_, by rw [List.map_append, h.key, hk]⟩
  · exact (h.own.lt k hk).1
  · rcases List.mem_append.1 hf with hf | hf
    · exact own_only (h.bod f hf) ho (a5 _ _ _ _ _ (h.bod f hf))
    · exact own_only (hb f hf) ho (a5 _ _ _ _ _ (hb f hf))
def PlayR (B g m : Nat) (vq : Value) (N : Nat) (t : CS) (L : List Cl) (w : World) (r : Ending) (w' : World) : Prop := ∃ lf vr s LF, r = .returned lf ∧ Pl w w' B g m vq (N + L.length) (outS (runK t L)) (runO t L ++ outs (runK t L)) vr s lf LF
theorem PlayR.shape {B g m : Nat} {vq : Value} {N : Nat} {t : CS} {L : List Cl} {w : World} {r : Ending} {w' : World} (h : PlayR B g m vq N t L w r w') : ∃ lf vr s LF, r = .returned lf ∧ Pl w w' B g m vq (N + L.length) (outS (runK t L)) (runO t L ++ outs (runK t L)) vr s lf LF := h
theorem one01 {t : CS} {c : Cl} (h : kd c.op = 0 ∨ kd c.op = 1) : oneK t c = sendS t (.slice none 0 0) c.b ∧ oneO t c = [] := by unfold oneK oneO; rw [if_pos h, if_pos h]; exact ⟨rfl, rfl⟩
theorem one23 {t : CS} {c : Cl} (h : kd c.op = 2 ∨ kd c.op = 3) : oneK t c = takeS t c.conn c.seq c.ack c.b (.slice none 0 0) ∧ oneO t c = [] := by
  have h1 : ¬ (kd c.op = 0 ∨ kd c.op = 1) := by omega
  unfold oneK oneO
  rw [if_neg h1, if_neg h1, if_pos h, if_pos h]
  exact ⟨rfl, rfl⟩
theorem one4 {t : CS} {c : Cl} (h : kd c.op = 4) : oneK t c = tickS t ∧ oneO t c = [] := by
  have h1 : ¬ (kd c.op = 0 ∨ kd c.op = 1) := by omega
  have h2 : ¬ (kd c.op = 2 ∨ kd c.op = 3) := by omega
  unfold oneK oneO
  rw [if_neg h1, if_neg h1, if_neg h2, if_neg h2, if_pos h, if_pos h]
  exact ⟨rfl, rfl⟩
theorem one5 {t : CS} {c : Cl} (h : kd c.op = 5) : oneK t c = outS t ∧ oneO t c = outs t := by
  have h1 : ¬ (kd c.op = 0 ∨ kd c.op = 1) := by omega
  have h2 : ¬ (kd c.op = 2 ∨ kd c.op = 3) := by omega
  have h3 : ¬ kd c.op = 4 := by omega
  unfold oneK oneO
  rw [if_neg h1, if_neg h1, if_neg h2, if_neg h2, if_neg h3, if_neg h3]
  exact ⟨rfl, rfl⟩
theorem outs4 (s : CS) : (outs s).length ≤ 4 := by
  unfold outs
  split
  · split <;> simp
  · rw [List.length_map]; exact lvOf_len s
theorem infoFr' : ∃ i, Try.prog.info? 34 = some i ∧ i.zero = some (.agg #[.int .i64 0, .int .i64 0, .int .i64 0, .slice none 0 0]) ∧ i.size = 4 ∧ i.bytes = 48 := info_parts infoFr
theorem Dos.low {w0 w : World} {B : Nat} {a : Option Addr} {L : List Cl} (h : Dos w0 a L) (hb : Below B w0 w) (hB : w0.heap.size ≤ B) : Dos w a L := h.below hB hb
theorem Byt.low {w0 w : World} {B : Nat} {v : Value} {l : List Nat} (h : Byt w0 v l) (hb : Below B w0 w) (hB : w0.heap.size ≤ B) : Byt w v l := h.call (hb.mono hB)
theorem Ch.lowW {w : World} {B g m : Nat} {vq : Value} {s : CS} (h : Ch w B g m vq s) : B ≤ w.heap.size := Nat.le_trans h.gB (Nat.le_of_lt h.row.lt)
theorem Pl.lowB {w0 w wr : World} {B g m : Nat} {vq : Value} {N : Nat} {t : CS} {ks : List Key} {vr : Value} {s : CS} {lf : Value} {LF : List Fm} (h : Pl w wr B g m vq N t ks vr s lf LF) (hb : Below B w0 w) (hq : ∀ k, vq.ownBlock = some k → B ≤ k) (hB : B ≤ w.heap.size) : Below B w wr :=
  h.tu.1.below hB (fun k hk => by
    rcases hk with rfl | rfl | hk
    · exact h.ch.gB
    · exact h.ch.mB
    · exact hq k hk)
set_option maxRecDepth 100000 in
set_option maxHeartbeats 4000000 in
theorem play_any (B g m : Nat) (vq : Value) (s0 t : CS) (a : Option Addr) (L : List Cl) (cap N : Nat) (w0 w : World) (h : Ch w B g m vq s0) (hi : Inv N 1 s0) (hN : N ≤ 1000) (hs : Sim s0 t) (hD : Dos w0 a L) (hB0 : w0.heap.size ≤ B) (hBW : Below B w0 w) (hc : L.length ≤ cap) (hm : cap ≤ maxLen) (hL : L.length ≤ 200) (hT : total L ≤ 32768) :
    Calls Try.prog 35 #[.pointer (some ⟨g, 0, none⟩), .slice a L.length cap] w fun r w' => PlayR B g m vq N t L w r w' := by
  have hfr := infoFr'
  have HFR := hide hfr
  have HD := hide hD
  have HBW := hide hBW
  have HTO := hide hT
  have HST : Hid (Pl w w B g m vq (N + 0) (runK t (L.take 0)) (runO t (L.take 0)) vq s0 (.slice none 0 0) []) := hide ⟨h, Turn.refl _ _ _ _, hi, hs, ⟨rfl, .inl ⟨rfl, rfl⟩⟩, fun f hf => (by cases hf), rfl⟩
  unfold maxLen at hm
  obtain ⟨n, hn⟩ : ∃ n, L.length = n := ⟨_, rfl⟩
  have HN := hide hn
  rw [hn] at hc hL ⊢
  have HQB : Hid (∀ k, vq.ownBlock = some k → B ≤ k) := hide (fun k hk => (h.own.lt k hk).1)
  have HBS := hide h.lowW
  clear h hn hi hs hD hT hBW hfr
  have hfr := HFR
  go_enter Try.func35, Try.ntmps35
  go_wp2_with fail
  go_loopw [5, 10] (fun u i wr => ∃ (k : Nat) (s : CS) (vr lf : Value) (LF : List Fm), k ≤ n ∧ lf = u ∧ i = .int .i64 (k : Int) ∧ LF.length ≤ 4 * k ∧ Hid (Pl w wr B g m vq (N + k) (runK t (L.take k)) (runO t (L.take k)) vr s lf LF)) (fun _ i _ => n - (intOf i).toNat)
  case atStart => exact ⟨0, _, _, _, [], by omega, rfl, rfl, by simp, HST⟩
  case round =>
    clear HST
    obtain ⟨k, s, vr, lf, LF, hk, hlf, rfl, hlen, HI⟩ := hrel
    subst hlf
    have HLO : Hid (Below B w0 wr) := hide ((unhide HBW).trans (Pl.lowB (unhide HI) (unhide HBW) (unhide HQB) (unhide HBS)))
    by_cases g1 : k < n
    · have i1 : (k : Int) < (n : Int) := by omega
      have i0 : (0 : Int) ≤ (k : Int) := by omega
      obtain ⟨c, hc1⟩ : ∃ c, L[k]? = some c := ⟨_, List.getElem?_eq_getElem (by rw [unhide HN]; exact g1)⟩
      have HCM := hide (List.mem_of_getElem? hc1)
      have HDw := hide ((unhide HD).low (unhide HLO) hB0)
      rcases (unhide HDw).2 with h0 | ⟨b, off, rfl, hlt, hx⟩
      · rw [h0] at hc1; simp at hc1
      have HNX := hide (runK_next hc1 t)
      have hat := hx k c hc1
      obtain ⟨av, cv, hv⟩ := byt_shape ((unhide HD).1 c (unhide HCM)).byt
      have q0 : wr.cell? ⟨b, off + k * 5, none⟩ = some (.int .i64 c.op) := hat 0 _ rfl
      have q1 : wr.cell? ⟨b, off + k * 5 + 1, none⟩ = some (.int .i64 c.conn) := hat 1 _ rfl
      have q2 : wr.cell? ⟨b, off + k * 5 + 2, none⟩ = some (.int .i64 c.seq) := hat 2 _ rfl
      have q3 : wr.cell? ⟨b, off + k * 5 + 3, none⟩ = some (.int .i64 c.ack) := hat 3 _ rfl
      have q4 : wr.cell? ⟨b, off + k * 5 + 4, none⟩ = some (.slice av c.b.length cv) := by rw [← hv]; exact hat 4 _ rfl
      have HV : Hid (Byt w0 (.slice av c.b.length cv) c.b) := hide (by rw [← hv]; exact ((unhide HD).1 c (unhide HCM)).byt)
      have HSQ := hide ((unhide HD).1 c (unhide HCM)).seq
      have HBL : Hid (c.b.length ≤ 1000000000) := hide (by have := total_mem (unhide HCM); have := unhide HTO; omega)
      clear hx hat hlt hc1 hv
      have kd := kd6 c.op
      have b1 : Below wr.heap.size wr (wr.alloc (.cells #[.int .i64 c.op, .int .i64 c.conn, .int .i64 c.seq, .int .i64 c.ack, .slice av c.b.length cv] 36)) := (Below.refl _ _).alloc (Nat.le_refl _) _
      have HX := hide (RowAt.new wr 36 [.int .i64 c.op, .int .i64 c.conn, .int .i64 c.seq, .int .i64 c.ack, .slice av c.b.length cv])
      obtain ⟨kn, hkn⟩ : ∃ z, wrap64 ((IntKind.u64.wrap c.op).tmod 6) = z := ⟨_, rfl⟩
      have HKN : Hid (Go.Proofs.Ytmkpphkdaiienaa.kd c.op = kn) := hide hkn
      rw [unhide HKN] at kd
      have HVW : Hid (Byt wr (.slice av c.b.length cv) c.b) := hide ((unhide HV).low (unhide HLO) hB0)
      have HV2 := hide ((unhide HVW).call b1)
      rw [show wr.alloc (.cells #[.int .i64 c.op, .int .i64 c.conn, .int .i64 c.seq, .int .i64 c.ack, .slice av c.b.length cv] 36) = (wr.alloc (.cells #[.int .i64 c.op, .int .i64 c.conn, .int .i64 c.seq, .int .i64 c.ack, .slice av c.b.length cv] 36)) from rfl] at HV2
      rcases kd with rfl | rfl | rfl | rfl | rfl | rfl
      · go_wp2_with fail
        have HI := hide ((unhide HI).call b1)
        obtain ⟨wk, hwk⟩ : ∃ z, (wr.alloc (.cells #[.int .i64 c.op, .int .i64 c.conn, .int .i64 c.seq, .int .i64 c.ack, .slice av c.b.length cv] 36)) = z := ⟨_, rfl⟩
        obtain ⟨gk, hgk⟩ : ∃ z, wr.heap.size = z := ⟨_, rfl⟩
        rw [hwk] at HI HX HV2 ⊢
        rw [hgk] at HX
        clear hwk hgk b1 q0 q1 q2 q3 q4 hkn
        refine Calls.mono (send_any B g m vr _ s c.b wk (unhide HI).ch ((unhide HI).inv.ok (by decide) (by omega)) (unhide HV2) (unhide HI).ch.lowW (unhide HBL)) ?_
        intro r w2 h2
        obtain ⟨rfl, v, vr2, c2, t2⟩ := h2.shape
        obtain ⟨e1, e2⟩ := one01 (t := runK t (L.take k)) (c := c) (by have := unhide HKN; omega)
        have HW : Hid (Pl w w2 B g m vq (N + (k + 1)) (runK t (L.take (k + 1))) (runO t (L.take (k + 1))) vr2 (sendS s v c.b) lf LF) := hide (by rw [(unhide HNX).1, (unhide HNX).2, e1, e2, List.append_nil]; exact (unhide HI).step c2 t2 ((unhide HI).inv.send v c.b) ((unhide HI).sim.send v _ c.b).1)
        clear h2 c2 t2 e1 e2 HI
        go_wp2_with fail
        go_roundw
        case rel => exact ⟨k + 1, _, _, _, LF, by omega, rfl, by go_num, by omega, HW⟩
        case measure => simp [intOf]; omega
      · go_wp2_with fail
        have HI := hide ((unhide HI).call b1)
        obtain ⟨wk, hwk⟩ : ∃ z, (wr.alloc (.cells #[.int .i64 c.op, .int .i64 c.conn, .int .i64 c.seq, .int .i64 c.ack, .slice av c.b.length cv] 36)) = z := ⟨_, rfl⟩
        obtain ⟨gk, hgk⟩ : ∃ z, wr.heap.size = z := ⟨_, rfl⟩
        rw [hwk] at HI HX HV2 ⊢
        rw [hgk] at HX
        clear hwk hgk b1 q0 q1 q2 q3 q4 hkn
        refine Calls.mono (send_any B g m vr _ s c.b wk (unhide HI).ch ((unhide HI).inv.ok (by decide) (by omega)) (unhide HV2) (unhide HI).ch.lowW (unhide HBL)) ?_
        intro r w2 h2
        obtain ⟨rfl, v, vr2, c2, t2⟩ := h2.shape
        obtain ⟨e1, e2⟩ := one01 (t := runK t (L.take k)) (c := c) (by have := unhide HKN; omega)
        have HW : Hid (Pl w w2 B g m vq (N + (k + 1)) (runK t (L.take (k + 1))) (runO t (L.take (k + 1))) vr2 (sendS s v c.b) lf LF) := hide (by rw [(unhide HNX).1, (unhide HNX).2, e1, e2, List.append_nil]; exact (unhide HI).step c2 t2 ((unhide HI).inv.send v c.b) ((unhide HI).sim.send v _ c.b).1)
        clear h2 c2 t2 e1 e2 HI
        go_wp2_with fail
        go_roundw
        case rel => exact ⟨k + 1, _, _, _, LF, by omega, rfl, by go_num, by omega, HW⟩
        case measure => simp [intOf]; omega
      · go_wp2_with fail
        have HI := hide ((unhide HI).call b1)
        obtain ⟨wk, hwk⟩ : ∃ z, (wr.alloc (.cells #[.int .i64 c.op, .int .i64 c.conn, .int .i64 c.seq, .int .i64 c.ack, .slice av c.b.length cv] 36)) = z := ⟨_, rfl⟩
        obtain ⟨gk, hgk⟩ : ∃ z, wr.heap.size = z := ⟨_, rfl⟩
        rw [hwk] at HI HX HV2 ⊢
        rw [hgk] at HX
        clear hwk hgk b1 q0 q1 q2 q3 q4 hkn
        refine Calls.mono (take_any B g m vr _ s c.conn c.seq c.ack c.b wk (unhide HI).ch ((unhide HI).inv.ok (by decide) (by omega)) (unhide HI).inv.eok ⟨unhide HV2, (byt_lt (unhide HV)).imp id (fun h9 => .inl (fun k h8 => Nat.lt_of_lt_of_le (h9 k h8) hB0))⟩ (unhide HBL) (unhide HSQ) (by have := (unhide HI).inv.el; omega)) ?_
        intro r w2 h2
        obtain ⟨o, v, vr2, rfl, i2⟩ := h2.shape
        obtain ⟨e1, e2⟩ := one23 (t := runK t (L.take k)) (c := c) (by have := unhide HKN; omega)
        have HW : Hid (Pl w w2 B g m vq (N + (k + 1)) (runK t (L.take (k + 1))) (runO t (L.take (k + 1))) vr2 (takeS s c.conn c.seq c.ack c.b v) lf LF) := hide (by rw [(unhide HNX).1, (unhide HNX).2, e1, e2, List.append_nil]; exact (unhide HI).step i2.ch i2.tu ((unhide HI).inv.take c.conn c.seq c.ack c.b v) ((unhide HI).sim.take c.conn c.seq c.ack c.b v _).1)
        clear h2 i2 e1 e2 HI
        go_wp2_with fail
        go_roundw
        case rel => exact ⟨k + 1, _, _, _, LF, by omega, rfl, by go_num, by omega, HW⟩
        case measure => simp [intOf]; omega
      · go_wp2_with fail
        have HI := hide ((unhide HI).call b1)
        obtain ⟨wk, hwk⟩ : ∃ z, (wr.alloc (.cells #[.int .i64 c.op, .int .i64 c.conn, .int .i64 c.seq, .int .i64 c.ack, .slice av c.b.length cv] 36)) = z := ⟨_, rfl⟩
        obtain ⟨gk, hgk⟩ : ∃ z, wr.heap.size = z := ⟨_, rfl⟩
        rw [hwk] at HI HX HV2 ⊢
        rw [hgk] at HX
        clear hwk hgk b1 q0 q1 q2 q3 q4 hkn
        refine Calls.mono (take_any B g m vr _ s c.conn c.seq c.ack c.b wk (unhide HI).ch ((unhide HI).inv.ok (by decide) (by omega)) (unhide HI).inv.eok ⟨unhide HV2, (byt_lt (unhide HV)).imp id (fun h9 => .inl (fun k h8 => Nat.lt_of_lt_of_le (h9 k h8) hB0))⟩ (unhide HBL) (unhide HSQ) (by have := (unhide HI).inv.el; omega)) ?_
        intro r w2 h2
        obtain ⟨o, v, vr2, rfl, i2⟩ := h2.shape
        obtain ⟨e1, e2⟩ := one23 (t := runK t (L.take k)) (c := c) (by have := unhide HKN; omega)
        have HW : Hid (Pl w w2 B g m vq (N + (k + 1)) (runK t (L.take (k + 1))) (runO t (L.take (k + 1))) vr2 (takeS s c.conn c.seq c.ack c.b v) lf LF) := hide (by rw [(unhide HNX).1, (unhide HNX).2, e1, e2, List.append_nil]; exact (unhide HI).step i2.ch i2.tu ((unhide HI).inv.take c.conn c.seq c.ack c.b v) ((unhide HI).sim.take c.conn c.seq c.ack c.b v _).1)
        clear h2 i2 e1 e2 HI
        go_wp2_with fail
        go_roundw
        case rel => exact ⟨k + 1, _, _, _, LF, by omega, rfl, by go_num, by omega, HW⟩
        case measure => simp [intOf]; omega
      · go_wp2_with fail
        have HI := hide ((unhide HI).call b1)
        obtain ⟨wk, hwk⟩ : ∃ z, (wr.alloc (.cells #[.int .i64 c.op, .int .i64 c.conn, .int .i64 c.seq, .int .i64 c.ack, .slice av c.b.length cv] 36)) = z := ⟨_, rfl⟩
        obtain ⟨gk, hgk⟩ : ∃ z, wr.heap.size = z := ⟨_, rfl⟩
        rw [hwk] at HI HX HV2 ⊢
        rw [hgk] at HX
        clear hwk hgk b1 q0 q1 q2 q3 q4 hkn
        refine Calls.mono (tick_any B g m vr s wk (unhide HI).ch (unhide HI).inv.q (by rw [(unhide HI).inv.conn]; decide) ((unhide HI).inv.ti (by omega))) ?_
        rintro r w2 ⟨rfl, c2, t2⟩
        obtain ⟨e1, e2⟩ := one4 (t := runK t (L.take k)) (c := c) (by have := unhide HKN; omega)
        have HW : Hid (Pl w w2 B g m vq (N + (k + 1)) (runK t (L.take (k + 1))) (runO t (L.take (k + 1))) vr (tickS s) lf LF) := hide (by rw [(unhide HNX).1, (unhide HNX).2, e1, e2, List.append_nil]; exact (unhide HI).step c2 t2 (unhide HI).inv.tickI (unhide HI).sim.tick)
        clear c2 t2 e1 e2 HI
        go_wp2_with fail
        go_roundw
        case rel => exact ⟨k + 1, _, _, _, LF, by omega, rfl, by go_num, by omega, HW⟩
        case measure => simp [intOf]; omega
      · go_wp2_with fail
        have HI := hide ((unhide HI).call b1)
        obtain ⟨wk, hwk⟩ : ∃ z, (wr.alloc (.cells #[.int .i64 c.op, .int .i64 c.conn, .int .i64 c.seq, .int .i64 c.ack, .slice av c.b.length cv] 36)) = z := ⟨_, rfl⟩
        obtain ⟨gk, hgk⟩ : ∃ z, wr.heap.size = z := ⟨_, rfl⟩
        rw [hwk] at HI HX HV2 ⊢
        rw [hgk] at HX
        clear hwk hgk b1 q0 q1 q2 q3 q4 hkn
        refine Calls.mono (out_any B g m vr s wk (unhide HI).ch ((unhide HI).inv.ok (by decide) (by omega)) ((unhide HI).inv.ti (by omega)) (unhide HI).inv.bo) ?_
        intro r w3 h3
        obtain ⟨L2, l2, rfl, i3⟩ := h3.shape
        have HI3 := hide ((unhide HI).step i3.ch i3.tu (unhide HI).inv.out (unhide HI).sim.out.1)
        have HK3 : Hid (L2.map Fm.key = outs (runK t (L.take k))) := hide (by rw [i3.key]; exact (unhide HI).sim.out.2)
        have HO3 := hide i3.own
        have HF3 : Hid (∀ f ∈ L2, Own w3 f.v f.body) := hide (fun f hf => own_base (i3.bod f hf))
        obtain ⟨al, cl, hal⟩ := own_one i3.own
        subst hal
        have n4 : L2.length ≤ 4 := by have := congrArg List.length (unhide HK3); rw [List.length_map] at this; have := outs4 (runK t (L.take k)); omega
        obtain ⟨n2, hn2⟩ : ∃ z, L2.length = z := ⟨_, rfl⟩
        obtain ⟨nf, hnf⟩ : ∃ z, LF.length = z := ⟨_, rfl⟩
        rw [hn2] at n4 ⊢
        rw [hnf] at hlen
        have HN2 := hide hn2
        have HNF := hide hnf
        clear h3 i3 hn2 hnf HI
        go_wp2_with (at_builtin; refine unhide ?_)
        refine hide ?_
        refine wpList_append_src w3 rfl _ _ _ rfl w.heap.size 34 (Classical.choose (unhide hfr)) _ 4 48 Try.underlying48 (Classical.choose_spec (unhide hfr)).1 (Classical.choose_spec (unhide hfr)).2.1 (Classical.choose_spec (unhide hfr)).2.2.1 (Classical.choose_spec (unhide hfr)).2.2.2 (by rfl) (by decide) lf nf (fcs LF) (by rfl) (by rw [← unhide HNF]; exact (unhide HI3).own) al n2 cl (fcs L2) (by rfl) (by rw [fcs_len, unhide HN2]) (fun e => by have := unhide HO3; rw [e, unhide HN2] at this; exact own_none' this) (by have := unhide HO3; rw [unhide HN2] at this; exact own_news' this) (fcs_one (fun f hf => (unhide HF3 f hf).one)) (by unfold maxLen; omega) (by omega) (unhide HI3).tu.1.size ?_
        intro ad' cap' w6 ho6 hg6
        have HW : Hid (Pl w w6 B g m vq (N + k) (outS (runK t (L.take k))) (runO t (L.take k) ++ outs (runK t (L.take k))) vr (outS s) (.slice ad' (nf + n2) cap') (LF ++ L2)) := hide ((unhide HI3).app (by rw [unhide HNF, unhide HN2]; exact ho6) (grown_only hg6) (unhide HF3) (unhide HK3))
        have HLL : Hid ((LF ++ L2).length = nf + n2) := hide (by rw [List.length_append, unhide HNF, unhide HN2])
        clear ho6 hg6 HO3 HF3 HK3 HI3
        obtain ⟨e1, e2⟩ := one5 (t := runK t (L.take k)) (c := c) (by have := unhide HKN; omega)
        have HW2 : Hid (Pl w w6 B g m vq (N + (k + 1)) (runK t (L.take (k + 1))) (runO t (L.take (k + 1))) vr (outS s) (.slice ad' (nf + n2) cap') (LF ++ L2)) := hide (by rw [(unhide HNX).1, (unhide HNX).2, e1, e2]; exact (unhide HW).step (unhide HW).ch (Turn.refl _ _ _ _) (unhide HW).inv.more (unhide HW).sim)
        clear HW e1 e2
        go_wp2_with fail
        go_roundw
        case rel => exact ⟨k + 1, _, _, _, _, by omega, rfl, by go_num, by rw [unhide HLL]; omega, HW2⟩
        case measure => simp [intOf]; omega
    · have i1 : ¬ (k : Int) < (n : Int) := by omega
      obtain rfl : k = n := by omega
      have htk : L.take k = L := List.take_of_length_le (by rw [unhide HN]; exact Nat.le_refl _)
      rw [htk] at HI
      have HTK := hide htk
      clear htk
      obtain ⟨wk, hwk⟩ : ∃ z, wr = z := ⟨_, rfl⟩
      rw [hwk] at HI ⊢
      clear hwk
      go_wp2_with fail
      refine Calls.mono (out_any B g m vr s wk (unhide HI).ch ((unhide HI).inv.ok (by decide) (by omega)) ((unhide HI).inv.ti (by omega)) (unhide HI).inv.bo) ?_
      intro r w3 h3
      obtain ⟨L2, l2, rfl, i3⟩ := h3.shape
      have HI3 := hide ((unhide HI).step i3.ch i3.tu (unhide HI).inv.out (unhide HI).sim.out.1)
      have HK3 : Hid (L2.map Fm.key = outs (runK t L)) := hide (by rw [i3.key]; exact (unhide HI).sim.out.2)
      have HO3 := hide i3.own
      have HF3 : Hid (∀ f ∈ L2, Own w3 f.v f.body) := hide (fun f hf => own_base (i3.bod f hf))
      obtain ⟨al, cl, hal⟩ := own_one i3.own
      subst hal
      have n4 : L2.length ≤ 4 := by have := congrArg List.length (unhide HK3); rw [List.length_map] at this; have := outs4 (runK t L); omega
      obtain ⟨n2, hn2⟩ : ∃ z, L2.length = z := ⟨_, rfl⟩
      obtain ⟨nf, hnf⟩ : ∃ z, LF.length = z := ⟨_, rfl⟩
      rw [hn2] at n4 ⊢
      rw [hnf] at hlen
      have HN2 := hide hn2
      have HNF := hide hnf
      clear h3 i3 hn2 hnf HI
      go_wp2_with (at_builtin; refine unhide ?_)
      refine hide ?_
      refine wpList_append_src w3 rfl _ _ _ rfl w.heap.size 34 (Classical.choose (unhide hfr)) _ 4 48 Try.underlying48 (Classical.choose_spec (unhide hfr)).1 (Classical.choose_spec (unhide hfr)).2.1 (Classical.choose_spec (unhide hfr)).2.2.1 (Classical.choose_spec (unhide hfr)).2.2.2 (by rfl) (by decide) lf nf (fcs LF) (by rfl) (by rw [← unhide HNF]; exact (unhide HI3).own) al n2 cl (fcs L2) (by rfl) (by rw [fcs_len, unhide HN2]) (fun e => by have := unhide HO3; rw [e, unhide HN2] at this; exact own_none' this) (by have := unhide HO3; rw [unhide HN2] at this; exact own_news' this) (fcs_one (fun f hf => (unhide HF3 f hf).one)) (by unfold maxLen; omega) (by omega) (unhide HI3).tu.1.size ?_
      intro ad' cap' w6 ho6 hg6
      have HW : Hid (Pl w w6 B g m vq (N + k) (outS (runK t L)) (runO t L ++ outs (runK t L)) vr (outS s) (.slice ad' (nf + n2) cap') (LF ++ L2)) := hide ((unhide HI3).app (by rw [unhide HNF, unhide HN2]; exact ho6) (grown_only hg6) (unhide HF3) (unhide HK3))
      have HLL : Hid ((LF ++ L2).length = nf + n2) := hide (by rw [List.length_append, unhide HNF, unhide HN2])
      clear ho6 hg6 HO3 HF3 HK3 HI3
      go_wp2_with fail
      go_ret
      exact ⟨_, _, _, _, rfl, by rw [unhide HN]; exact unhide HW⟩
end Go.Proofs.Ytmkpphkdaiienaa
