/- ChannelWindow. -/
import Derived.Test.YtmkpphkdaiienaaCSt
namespace Go.Proofs.Ytmkpphkdaiienaa
set_option linter.unusedVariables false
set_option linter.unusedSimpArgs false
open Go.ChangeShapes Go.WideShapes Go.ChangeAt Go.RowKit Go.Joins Go.Deep

def Rise (hi : Int) : Int → List Int → Prop
  | _, [] => True
  | last, y :: r => if y = 0 then Rise hi last r else last < y ∧ y ≤ hi ∧ Rise hi y r
theorem rise_low {hi : Int} : ∀ (l : List Int) (a b : Int), a ≤ b → Rise hi b l → Rise hi a l
  | [], a, b, _, _ => trivial
  | y :: r, a, b, h, hr => by
    unfold Rise at hr ⊢
    split
    · rename_i h0
      rw [if_pos h0] at hr
      exact rise_low r a b h hr
    · rename_i h0
      rw [if_neg h0] at hr
      exact ⟨by omega, hr.2⟩
theorem rise_seq (hi : Int) : ∀ (l : List Par) (b : Int), 0 ≤ b → b + (l.length : Int) ≤ hi → (∀ (i : Nat) (p : Par), l[i]? = some p → p.seq = b + 1 + (i : Int)) → Rise hi b (((l.filter duE).map freshP).map Par.seq)
  | [], b, _, _, _ => trivial
  | x :: r, b, h0, h1, h2 => by
    have hx := h2 0 x rfl
    simp only [List.length_cons] at h1
    have ih := rise_seq hi r (b + 1) (by omega) (by omega) (fun i p hp => by have := h2 (i + 1) p (by simpa using hp); omega)
    by_cases hd : duE x = true
    · rw [List.filter_cons_of_pos hd, List.map_cons, List.map_cons]
      unfold Rise
      rw [freshP_seq, if_neg (by omega)]
      have e : x.seq = b + 1 := by omega
      rw [e]
      exact ⟨by omega, by omega, ih⟩
    · rw [List.filter_cons_of_neg hd]
      exact rise_low _ _ _ (by omega) ih
theorem rise_outs {N : Nat} {c : Int} {s : CS} (h : Inv N c s) (hq : (s.q.length : Int) ≤ s.next - 1) : Rise (min (s.next - 1 - (s.q.length : Int) + 4) (s.next - 1)) (s.next - 1 - (s.q.length : Int)) ((outs s).map (fun k => k.2.1)) := by
  unfold outs
  split
  · split
    · show Rise _ _ [(0 : Int)]
      unfold Rise
      rw [if_pos rfl]
      trivial
    · trivial
  · have e : ((lvOf s).map (outK s)).map (fun k => k.2.1) = (lvOf s).map Par.seq := by
      rw [List.map_map]
      rfl
    rw [e]
    unfold lvOf outL
    refine rise_seq _ _ _ (by omega) (by rw [List.length_take]; omega) (fun i p hp => ?_)
    rw [List.getElem?_take] at hp
    split at hp
    · have := h.seq i p hp
      omega
    · cases hp
theorem Rise.at {hi last : Int} {l : List Int} {y : Int} {r : List Int} (h : Rise hi last l) (hl : l = y :: r) : (y = 0 → Rise hi last r) ∧ (y ≠ 0 → last < y ∧ y ≤ hi ∧ Rise hi y r) := by
  subst hl
  unfold Rise at h
  split at h
  · rename_i h0; exact ⟨fun _ => h, fun h1 => absurd h0 h1⟩
  · rename_i h0; exact ⟨fun h1 => absurd h1 h0, fun _ => h⟩
theorem takeS_next (s : CS) (c q a : Int) (b : List Nat) (v : Value) : (takeS s c q a b v).next = s.next := by
  unfold takeS
  split
  · rfl
  · split
    · rfl
    · show (keepS (ackS s a) q v b).next = s.next
      unfold keepS
      split <;> rfl
theorem sendS_next (s : CS) (v : Value) (l : List Nat) : (sendS s v l).next = if sendE s l.length = 0 then s.next + 1 else s.next := by
  unfold sendS
  split <;> rfl
/-- the waiting ones are at most those that were sent -/
theorem sendS_q (s : CS) (v : Value) (l : List Nat) (h : (s.q.length : Int) ≤ s.next - 1) : ((sendS s v l).q.length : Int) ≤ (sendS s v l).next - 1 := by
  unfold sendS
  split
  · show ((s.q ++ [_]).length : Int) ≤ s.next + 1 - 1
    rw [List.length_append, List.length_singleton]
    omega
  · exact h
theorem takeS_q (s : CS) (c q a : Int) (b : List Nat) (v : Value) : (takeS s c q a b v).q.length ≤ s.q.length := by
  have hl := ackN_le' a s.q
  unfold takeS
  split
  · exact Nat.le_refl _
  · split
    · show (s.q.drop _).length ≤ _
      omega
    · show (keepS (ackS s a) q v b).q.length ≤ s.q.length
      have : (keepS (ackS s a) q v b).q = s.q.drop (ackN a s.q) := by unfold keepS; split <;> rfl
      rw [this]
      omega
theorem outs_len (s : CS) : (outs s).length ≤ 4 := by
  unfold outs
  split
  · split <;> simp
  · rw [List.length_map]; exact lvOf_len s
structure Wi (w0 wr : World) (g m : Nat) (vq : Value) (s : CS) (k : Nat) (x : Int) : Prop where
  st : St w0 wr g m vq s k
  nx : s.next = x + 1
  q : (s.q.length : Int) ≤ s.next - 1
theorem Wi.call {w0 wr w' : World} {g m k : Nat} {vq : Value} {s : CS} {x : Int} (h : Wi w0 wr g m vq s k x) (hb : Below wr.heap.size wr w') : Wi w0 w' g m vq s k x := ⟨h.st.call hb, h.nx, h.q⟩
set_option maxRecDepth 100000 in
set_option maxHeartbeats 4000000 in
theorem window_law (a : Option Addr) (L : List Cl) (cap : Nat) (w : World) (h : Dos w a L) (hc : L.length ≤ cap) (hm : cap ≤ maxLen) :
    Calls Try.prog 6 #[.slice a L.length cap] w fun e w' => e = .returned (.bool true) ∧ Below w.heap.size w w' := by
  have HS := hide (short_any a L cap w h hc hm)
  have HD := hide h
  unfold maxLen at hm
  obtain ⟨n, hn⟩ : ∃ n, L.length = n := ⟨_, rfl⟩
  have HN := hide hn
  rw [hn] at hc HS ⊢
  clear h hn
  go_enter Try.func6, Try.ntmps6
  go_wp2_with fail
  refine Calls.mono (unhide HS) ?_
  rintro r w' ⟨⟨sh, rfl, hsh⟩, rfl⟩
  clear HS
  cases sh with
  | false =>
    go_wp2_with fail
    refine Calls.mono (awake_any w) ?_
    rintro r w1 ⟨rfl, hb⟩
    have HB := hide hb
    clear hb
    go_wp2_with fail
    go_ret
    exact ⟨rfl, unhide HB⟩
  | true =>
    have HSH := hide (hsh rfl)
    have hn2 : n ≤ 200 := by have := (unhide HSH).1; have := unhide HN; omega
    clear hsh
    go_wp2_with fail
    refine Calls.mono (fresh_any w) ?_
    intro r w1 h1
    obtain ⟨g, m, rfl, c1, b1⟩ := h1.shape
    have HST : Hid (Wi w w1 g m (.slice none 0 0) (newS 1) 0 0) := hide ⟨St.start c1 b1, by simp [newS], by simp [newS]⟩
    clear h1 c1 b1
    go_wp2_with fail
    go_loopw [4, 18] (fun se i wr => ∃ (k : Nat) (x : Int) (s : CS) (vq : Value), k ≤ n ∧ i = .int .i64 (k : Int) ∧ se = .int .i64 x ∧ Hid (Wi w wr g m vq s k x)) (fun _ i _ => n - (intOf i).toNat)
    case atStart => exact ⟨0, 0, _, _, by omega, rfl, rfl, HST⟩
    case round =>
      clear HST
      obtain ⟨k, x, s, vq, hk, rfl, rfl, HI⟩ := hrel
      by_cases g1 : k < n
      · have i1 : (k : Int) < (n : Int) := by omega
        have i0 : (0 : Int) ≤ (k : Int) := by omega
        have x0 : 0 ≤ x := by have := (unhide HI).nx; have := (unhide HI).st.inv.n0; omega
        have x1 : x ≤ 200 := by have := (unhide HI).nx; have := (unhide HI).st.inv.nN; omega
        obtain ⟨c, hc1⟩ : ∃ c, L[k]? = some c := ⟨_, List.getElem?_eq_getElem (by rw [unhide HN]; exact g1)⟩
        have HCM := hide (List.mem_of_getElem? hc1)
        rcases ((unhide HD).call ((unhide HI).st).bel).2 with h0 | ⟨b, off, rfl, hlt, hx⟩
        · rw [h0] at hc1; simp at hc1
        have hat := hx k c hc1
        obtain ⟨av, cv, hv⟩ := byt_shape ((unhide HD).1 c (unhide HCM)).byt
        have q0 : wr.cell? ⟨b, off + k * 5, none⟩ = some (.int .i64 c.op) := hat 0 _ rfl
        have q1 : wr.cell? ⟨b, off + k * 5 + 1, none⟩ = some (.int .i64 c.conn) := hat 1 _ rfl
        have q2 : wr.cell? ⟨b, off + k * 5 + 2, none⟩ = some (.int .i64 c.seq) := hat 2 _ rfl
        have q3 : wr.cell? ⟨b, off + k * 5 + 3, none⟩ = some (.int .i64 c.ack) := hat 3 _ rfl
        have q4 : wr.cell? ⟨b, off + k * 5 + 4, none⟩ = some (.slice av c.b.length cv) := by rw [← hv]; exact hat 4 _ rfl
        have HV : Hid (Byt w (.slice av c.b.length cv) c.b) := hide (by rw [← hv]; exact ((unhide HD).1 c (unhide HCM)).byt)
        have HSQ := hide ((unhide HD).1 c (unhide HCM)).seq
        have HBL : Hid (c.b.length ≤ 1000000000) := hide (by have := total_mem (unhide HCM); have := (unhide HSH).2; omega)
        clear hx hat hlt hc1 hv
        have kd := kind6 c.op
        have b1 : Below wr.heap.size wr (wr.alloc (.cells #[.int .i64 c.op, .int .i64 c.conn, .int .i64 c.seq, .int .i64 c.ack, .slice av c.b.length cv] 36)) := (Below.refl _ _).alloc (Nat.le_refl _) _
        have HX := hide (RowAt.new wr 36 [.int .i64 c.op, .int .i64 c.conn, .int .i64 c.seq, .int .i64 c.ack, .slice av c.b.length cv])
        obtain ⟨kn, hkn⟩ : ∃ z, wrap64 ((IntKind.u64.wrap c.op).tmod 6) = z := ⟨_, rfl⟩
        rw [hkn] at kd
        rcases kd with rfl | rfl | rfl | rfl | rfl | rfl
        · go_wp2_with fail
          have HI := hide ((unhide HI).call b1)
          obtain ⟨wk, hwk⟩ : ∃ z, (wr.alloc (.cells #[.int .i64 c.op, .int .i64 c.conn, .int .i64 c.seq, .int .i64 c.ack, .slice av c.b.length cv] 36)) = z := ⟨_, rfl⟩
          obtain ⟨gk, hgk⟩ : ∃ z, wr.heap.size = z := ⟨_, rfl⟩
          rw [hwk] at HI HX ⊢
          rw [hgk] at HX
          clear hwk hgk b1 q0 q1 q2 q3 q4 hkn
          refine Calls.mono (send_any w.heap.size g m vq _ s c.b wk (unhide HI).st.ch ((unhide HI).st.inv.ok (by decide) (by omega)) ((unhide HV).call (unhide HI).st.bel) (by have := (unhide HI).st.bel.size; exact this) (unhide HBL)) ?_
          intro r w2 h2
          obtain ⟨v, vq2, rfl, h3⟩ := (unhide HI).st.send h2
          by_cases hE : sendE s c.b.length = 0
          · have HW : Hid (Wi w w2 g m vq2 (sendS s v c.b) (k + 1) (x + 1)) := hide ⟨h3, by rw [sendS_next, if_pos hE, (unhide HI).nx], sendS_q s v c.b (unhide HI).q⟩
            rw [hE]
            clear h2 h3 hE HI
            go_wp2_with fail
            go_roundw
            case rel => exact ⟨k + 1, x + 1, _, _, by omega, by go_num, by go_num, HW⟩
            case measure => simp [intOf]; omega
          · have HW : Hid (Wi w w2 g m vq2 (sendS s v c.b) (k + 1) x) := hide ⟨h3, by rw [sendS_next, if_neg hE, (unhide HI).nx], sendS_q s v c.b (unhide HI).q⟩
            obtain ⟨ev, hev⟩ : ∃ z, sendE s c.b.length = z := ⟨_, rfl⟩
            rw [hev] at hE ⊢
            have hEb : (ev == 0) = false := by simp [hE]
            clear h2 h3 HI hev hE
            go_wp2_with fail
            go_roundw
            case rel => exact ⟨k + 1, x, _, _, by omega, by go_num, rfl, HW⟩
            case measure => simp [intOf]; omega
        · go_wp2_with fail
          have HI := hide ((unhide HI).call b1)
          obtain ⟨wk, hwk⟩ : ∃ z, (wr.alloc (.cells #[.int .i64 c.op, .int .i64 c.conn, .int .i64 c.seq, .int .i64 c.ack, .slice av c.b.length cv] 36)) = z := ⟨_, rfl⟩
          obtain ⟨gk, hgk⟩ : ∃ z, wr.heap.size = z := ⟨_, rfl⟩
          rw [hwk] at HI HX ⊢
          rw [hgk] at HX
          clear hwk hgk b1 q0 q1 q2 q3 q4 hkn
          refine Calls.mono (send_any w.heap.size g m vq _ s c.b wk (unhide HI).st.ch ((unhide HI).st.inv.ok (by decide) (by omega)) ((unhide HV).call (unhide HI).st.bel) (by have := (unhide HI).st.bel.size; exact this) (unhide HBL)) ?_
          intro r w2 h2
          obtain ⟨v, vq2, rfl, h3⟩ := (unhide HI).st.send h2
          by_cases hE : sendE s c.b.length = 0
          · have HW : Hid (Wi w w2 g m vq2 (sendS s v c.b) (k + 1) (x + 1)) := hide ⟨h3, by rw [sendS_next, if_pos hE, (unhide HI).nx], sendS_q s v c.b (unhide HI).q⟩
            rw [hE]
            clear h2 h3 hE HI
            go_wp2_with fail
            go_roundw
            case rel => exact ⟨k + 1, x + 1, _, _, by omega, by go_num, by go_num, HW⟩
            case measure => simp [intOf]; omega
          · have HW : Hid (Wi w w2 g m vq2 (sendS s v c.b) (k + 1) x) := hide ⟨h3, by rw [sendS_next, if_neg hE, (unhide HI).nx], sendS_q s v c.b (unhide HI).q⟩
            obtain ⟨ev, hev⟩ : ∃ z, sendE s c.b.length = z := ⟨_, rfl⟩
            rw [hev] at hE ⊢
            have hEb : (ev == 0) = false := by simp [hE]
            clear h2 h3 HI hev hE
            go_wp2_with fail
            go_roundw
            case rel => exact ⟨k + 1, x, _, _, by omega, by go_num, rfl, HW⟩
            case measure => simp [intOf]; omega
        · go_wp2_with fail
          have HI := hide ((unhide HI).call b1)
          obtain ⟨wk, hwk⟩ : ∃ z, (wr.alloc (.cells #[.int .i64 c.op, .int .i64 c.conn, .int .i64 c.seq, .int .i64 c.ack, .slice av c.b.length cv] 36)) = z := ⟨_, rfl⟩
          obtain ⟨gk, hgk⟩ : ∃ z, wr.heap.size = z := ⟨_, rfl⟩
          rw [hwk] at HI HX ⊢
          rw [hgk] at HX
          clear hwk hgk b1 q0 q1 q2 q3 q4 hkn
          refine Calls.mono (take_any w.heap.size g m vq _ s c.conn c.seq c.ack c.b wk (unhide HI).st.ch ((unhide HI).st.inv.ok (by decide) (by omega)) (unhide HI).st.inv.eok ((unhide HI).st.vis (unhide HV)) (unhide HBL) (unhide HSQ) (by have := (unhide HI).st.inv.el; omega)) ?_
          intro r w2 h2
          obtain ⟨o, v, vq2, rfl, _, h3⟩ := (unhide HI).st.take h2
          have HW : Hid (Wi w w2 g m vq2 (takeS s c.conn c.seq c.ack c.b v) (k + 1) x) := hide ⟨h3, by rw [takeS_next, (unhide HI).nx], by rw [takeS_next]; have := takeS_q s c.conn c.seq c.ack c.b v; have := (unhide HI).q; omega⟩
          clear h2 h3 HI
          go_wp2_with fail
          go_roundw
          case rel => exact ⟨k + 1, x, _, _, by omega, by go_num, rfl, HW⟩
          case measure => simp [intOf]; omega
        · go_wp2_with fail
          have HI := hide ((unhide HI).call b1)
          obtain ⟨wk, hwk⟩ : ∃ z, (wr.alloc (.cells #[.int .i64 c.op, .int .i64 c.conn, .int .i64 c.seq, .int .i64 c.ack, .slice av c.b.length cv] 36)) = z := ⟨_, rfl⟩
          obtain ⟨gk, hgk⟩ : ∃ z, wr.heap.size = z := ⟨_, rfl⟩
          rw [hwk] at HI HX ⊢
          rw [hgk] at HX
          clear hwk hgk b1 q0 q1 q2 q3 q4 hkn
          refine Calls.mono (take_any w.heap.size g m vq _ s c.conn c.seq c.ack c.b wk (unhide HI).st.ch ((unhide HI).st.inv.ok (by decide) (by omega)) (unhide HI).st.inv.eok ((unhide HI).st.vis (unhide HV)) (unhide HBL) (unhide HSQ) (by have := (unhide HI).st.inv.el; omega)) ?_
          intro r w2 h2
          obtain ⟨o, v, vq2, rfl, _, h3⟩ := (unhide HI).st.take h2
          have HW : Hid (Wi w w2 g m vq2 (takeS s c.conn c.seq c.ack c.b v) (k + 1) x) := hide ⟨h3, by rw [takeS_next, (unhide HI).nx], by rw [takeS_next]; have := takeS_q s c.conn c.seq c.ack c.b v; have := (unhide HI).q; omega⟩
          clear h2 h3 HI
          go_wp2_with fail
          go_roundw
          case rel => exact ⟨k + 1, x, _, _, by omega, by go_num, rfl, HW⟩
          case measure => simp [intOf]; omega
        · go_wp2_with fail
          have HI := hide ((unhide HI).call b1)
          obtain ⟨wk, hwk⟩ : ∃ z, (wr.alloc (.cells #[.int .i64 c.op, .int .i64 c.conn, .int .i64 c.seq, .int .i64 c.ack, .slice av c.b.length cv] 36)) = z := ⟨_, rfl⟩
          obtain ⟨gk, hgk⟩ : ∃ z, wr.heap.size = z := ⟨_, rfl⟩
          rw [hwk] at HI HX ⊢
          rw [hgk] at HX
          clear hwk hgk b1 q0 q1 q2 q3 q4 hkn
          refine Calls.mono (tick_any w.heap.size g m vq s wk (unhide HI).st.ch (unhide HI).st.inv.q (by rw [(unhide HI).st.inv.conn]; decide) ((unhide HI).st.inv.ti (by omega))) ?_
          intro r w2 h2
          obtain ⟨rfl, h3⟩ := (unhide HI).st.tick h2
          have HW : Hid (Wi w w2 g m vq (tickS s) (k + 1) x) := hide ⟨h3, (unhide HI).nx, by have := (unhide HI).q; show ((mapN agePar _ s.q).length : Int) ≤ s.next - 1; rw [mapN_len]; exact this⟩
          clear h2 h3 HI
          go_wp2_with fail
          go_roundw
          case rel => exact ⟨k + 1, x, _, _, by omega, by go_num, rfl, HW⟩
          case measure => simp [intOf]; omega
        · go_wp2_with fail
          have HI := hide ((unhide HI).call b1)
          obtain ⟨wk, hwk⟩ : ∃ z, (wr.alloc (.cells #[.int .i64 c.op, .int .i64 c.conn, .int .i64 c.seq, .int .i64 c.ack, .slice av c.b.length cv] 36)) = z := ⟨_, rfl⟩
          obtain ⟨gk, hgk⟩ : ∃ z, wr.heap.size = z := ⟨_, rfl⟩
          rw [hwk] at HI HX ⊢
          rw [hgk] at HX
          clear hwk hgk b1 q0 q1 q2 q3 q4 hkn
          obtain ⟨aq, cq, haq⟩ := own_one (unhide HI).st.ch.own
          have HAQ := hide haq
          obtain ⟨nq, hnq⟩ : ∃ z, s.q.length = z := ⟨_, rfl⟩
          have HNQ := hide hnq
          rw [hnq] at haq
          have y0 : nq ≤ 32 := by have := (unhide HI).st.inv.q; omega
          have y1 : (nq : Int) ≤ x := by have := (unhide HI).q; have := (unhide HI).nx; omega
          refine Calls.mono (waiting_ok g s.conn aq nq cq wk ((unhide HI).st.ch.row.cell 5) (by rw [(unhide HI).st.inv.conn]; decide) (by rw [← haq]; exact (unhide HI).st.ch.row.cell 1)) ?_
          rintro r w2 ⟨rfl, rfl⟩
          clear haq hnq
          go_wp2_with fail
          refine Calls.mono (out_any w.heap.size g m vq s wk (unhide HI).st.ch ((unhide HI).st.inv.ok (by decide) (by omega)) ((unhide HI).st.inv.ti (by omega)) (unhide HI).st.inv.bo) ?_
          intro r w3 h3
          obtain ⟨LF, lf, rfl, i3, st3⟩ := (unhide HI).st.out h3
          have HST := hide st3
          obtain ⟨alf, clf, hlf⟩ := own_one i3.own
          subst hlf
          have HK := hide i3.key
          have HOW := hide i3.own
          have HRI := hide (rise_outs (unhide HI).st.inv (unhide HI).q)
          have HNX := hide (unhide HI).nx
          have HQL := hide (unhide HI).q
          obtain ⟨nf, hnf⟩ : ∃ z, LF.length = z := ⟨_, rfl⟩
          have HNF := hide hnf
          rw [hnf]
          have nf4 : nf ≤ 4 := by have := congrArg List.length (unhide HK); rw [List.length_map] at this; have := outs_len s; have := unhide HNF; omega
          have HVS : Hid (∀ f ∈ LF, ∃ a c, f.v = .slice a f.body.length c) := hide (fun f hf => own_one (i3.bod f hf))
          clear h3 i3 st3 hnf HI
          have HCN1 : Hid (s.conn = 1) := hide (unhide HST).inv.conn
          go_wp2_with fail
          go_loopw [7, 34] (fun la i wi => ∃ (j : Nat) (y : Int), j ≤ nf ∧ i = .int .i64 (j : Int) ∧ la = .int .i64 y ∧ -300 ≤ y ∧ y ≤ 300 ∧ Hid (St w wi g m vq (outS s) k ∧ wi.ownsRow wk.heap.size 34 4 (.slice alf nf clf) LF.length (fcs LF) ∧ Rise (min (s.next - 1 - (s.q.length : Int) + 4) (s.next - 1)) y (((outs s).map (fun k => k.2.1)).drop j))) (fun _ i _ => nf - (intOf i).toNat)
          case atStart => exact ⟨0, x - (nq : Int), by omega, rfl, rfl, by omega, by omega, hide ⟨unhide HST, by rw [← unhide HNF]; exact unhide HOW, by rw [List.drop_zero]; rw [← unhide HNQ, ← show s.next - 1 = x by rw [unhide HNX]; omega]; exact unhide HRI⟩⟩
          case round =>
            clear HST HOW HRI
            obtain ⟨j, y, hj, rfl, rfl, y2, y3, HI⟩ := hrel
            generalize wr.heap.size = grx at *
            by_cases g2 : j < nf
            · have j1 : (j : Int) < (nf : Int) := by omega
              have j0 : (0 : Int) ≤ (j : Int) := by omega
              obtain ⟨f, hf⟩ : ∃ f, LF[j]? = some f := ⟨_, List.getElem?_eq_getElem (by rw [unhide HNF]; exact g2)⟩
              obtain ⟨gq, rfl, -, -, -, -, hx⟩ := fcell (unhide HI).2.1 (by rw [unhide HNF]; omega)
              obtain ⟨af, cf, haf⟩ := unhide HVS f (List.mem_of_getElem? hf)
              have q0 : wr.cell? ⟨gq, j * 4, none⟩ = some (.int .i64 f.conn) := hx j f hf 0 (by omega)
              have q1 : wr.cell? ⟨gq, j * 4 + 1, none⟩ = some (.int .i64 f.seq) := hx j f hf 1 (by omega)
              have q2 : wr.cell? ⟨gq, j * 4 + 2, none⟩ = some (.int .i64 f.ack) := hx j f hf 2 (by omega)
              have q3 : wr.cell? ⟨gq, j * 4 + 3, none⟩ = some (.slice af f.body.length cf) := by rw [← haf]; exact hx j f hf 3 (by omega)
              have hdrop : ((outs s).map (fun k => k.2.1)).drop j = f.seq :: ((outs s).map (fun k => k.2.1)).drop (j + 1) := by
                rw [← unhide HK, List.map_map, List.drop_eq_getElem_cons (by rw [List.length_map, unhide HNF]; exact g2)]
                congr 1
                rw [List.getElem_map, (List.getElem?_eq_some_iff.1 hf).2]
                rfl
              have HRA := hide ((unhide HI).2.2.at hdrop)
              obtain ⟨fs, hfs⟩ : ∃ z, f.seq = z := ⟨_, rfl⟩
              rw [hfs] at q1 HRA
              have b1 : Below wr.heap.size wr (wr.alloc (.cells #[.int .i64 f.conn, .int .i64 fs, .int .i64 f.ack, .slice af f.body.length cf] 34)) := (Below.refl _ _).alloc (Nat.le_refl _) _
              have HX := hide (RowAt.new wr 34 [.int .i64 f.conn, .int .i64 fs, .int .i64 f.ack, .slice af f.body.length cf])
              have HIA := hide (And.intro ((unhide HI).1.call b1) (own_call (unhide HI).2.1 b1))
              clear hx hf haf hdrop hfs HI
              by_cases g3 : fs = 0
              · subst g3
                have HR0 := hide ((unhide HRA).1 rfl)
                clear HRA
                go_wp2_with fail
                go_roundw
                case rel => exact ⟨j + 1, y, by omega, by go_num, rfl, y2, y3, hide ⟨(unhide HIA).1, (unhide HIA).2, unhide HR0⟩⟩
                case measure => simp [intOf]; omega
              · have g3b : (fs == 0) = false := by simp [g3]
                obtain ⟨r1, r2, r3⟩ := (unhide HRA).2 g3
                have r4 : fs ≤ x - (nq : Int) + 4 := by rw [← unhide HNQ]; have := unhide HNX; omega
                have r5 : fs ≤ x := by have := unhide HNX; omega
                have HR1 := hide r3
                clear r2 r3 HRA g3
                go_wp2_with fail
                obtain ⟨wb, hwb⟩ : ∃ z, wr.alloc (.cells #[.int .i64 f.conn, .int .i64 fs, .int .i64 f.ack, .slice af f.body.length cf] 34) = z := ⟨_, rfl⟩
                obtain ⟨gf, hgf⟩ : ∃ z, wr.heap.size = z := ⟨_, rfl⟩
                rw [hwb] at HX HIA ⊢
                rw [hgf] at HX ⊢
                clear hwb hgf b1 q0 q1 q2 q3
                refine wp_region_T (S := fun W => W.cell? ⟨gf, 1, none⟩ = some (.int .i64 fs)) (fun i => decide (i < 20)) (by kernel_rfl) ((unhide HX).cell 1) (fun hHeld => ?_)
                have bd : Below wb.heap.size wb wb.drew := Below.drew (Below.refl _ _)
                have HIB := hide (And.intro ((unhide HIA).1.call bd) (own_call (unhide HIA).2 bd))
                obtain ⟨we, hwe⟩ : ∃ z, wb.drew = z := ⟨_, rfl⟩
                rw [hwe] at HIB hHeld ⊢
                clear hwe bd HIA HX
                have e7 : IntKind.i64.wrap (x - (nq : Int)) = x - (nq : Int) := by rw [IntKind.wrap_i64]; omega
                have e8 : IntKind.i64.wrap (x - (nq : Int) + 4) = x - (nq : Int) + 4 := by rw [IntKind.wrap_i64]; omega
                have e1 : decide (fs ≤ y) = false := by simp; omega
                have e2 : decide (x - (nq : Int) + 4 < fs) = false := by simp; omega
                have e3 : decide (x < fs) = false := by simp; omega
                have e4 : ¬ fs ≤ y := by omega
                have e5 : ¬ x - (nq : Int) + 4 < fs := by omega
                have e6 : ¬ x < fs := by omega
                refine wpAnyT_take (i := 0) (oi := { dst := some 41, op := Op.fieldAddr 34 (Operand.tmp 9) 1, type := 0, pos := "law.go:246", after := #[], guard := none }) (v := .pointer (some ⟨gf, 1, none⟩)) rfl (by kernel_rfl) (by kernel_rfl) (by kernel_rfl) (by kernel_rfl) (fun _ _ _ h => h) (Or.inl ⟨by rfl, ?_⟩) hHeld ?_
                · intro w hSw
                  obtain h1 := hSw
                  first
                    | rfl
                    | (go_simp; done)
                try simp only [Act.put, List.setIfInBounds_toArray, List.set_cons_zero, List.set_cons_succ]
                refine wpAnyT_take (i := 1) (oi := { dst := some 42, op := Op.load 3 (Operand.tmp 41), type := 3, pos := "law.go:246", after := #[{ on := 0, ground := Ground.data }], guard := none }) (v := .int .i64 fs) rfl (by kernel_rfl) (by kernel_rfl) (by kernel_rfl) (by kernel_rfl) (fun _ _ _ h => h) (Or.inl ⟨by rfl, ?_⟩) hHeld ?_
                · intro w hSw
                  obtain h1 := hSw
                  first
                    | rfl
                    | (go_simp; done)
                try simp only [Act.put, List.setIfInBounds_toArray, List.set_cons_zero, List.set_cons_succ]
                refine wpAnyT_take (i := 2) (oi := { dst := some 43, op := Op.move (Operand.tmp 7), type := 3, pos := "law.go:246", after := #[], guard := none }) (v := .int .i64 y) rfl (by kernel_rfl) (by kernel_rfl) (by kernel_rfl) (by kernel_rfl) (fun _ _ _ h => h) (Or.inl ⟨by rfl, ?_⟩) hHeld ?_
                · intro w hSw
                  obtain h1 := hSw
                  first
                    | rfl
                    | (go_simp; done)
                try simp only [Act.put, List.setIfInBounds_toArray, List.set_cons_zero, List.set_cons_succ]
                refine wpAnyT_take (i := 3) (oi := { dst := some 44, op := Op.binOp BinOp.leq 3 (Operand.tmp 42) (Operand.tmp 43) 3, type := 4, pos := "law.go:246", after := #[{ on := 1, ground := Ground.data }, { on := 2, ground := Ground.data }], guard := none }) (v := .bool false) rfl (by kernel_rfl) (by kernel_rfl) (by kernel_rfl) (by kernel_rfl) (fun _ _ _ h => h) (Or.inl ⟨by rfl, ?_⟩) hHeld ?_
                · intro w hSw
                  obtain h1 := hSw
                  first
                    | rfl
                    | (go_simp; done)
                try simp only [Act.put, List.setIfInBounds_toArray, List.set_cons_zero, List.set_cons_succ]
                refine wpAnyT_take (i := 4) (oi := { dst := some 45, op := Op.move (Operand.tmp 44), type := 4, pos := "law.go:246", after := #[{ on := 3, ground := Ground.data }], guard := none }) (v := .bool false) rfl (by kernel_rfl) (by kernel_rfl) (by kernel_rfl) (by kernel_rfl) (fun _ _ _ h => h) (Or.inl ⟨by rfl, ?_⟩) hHeld ?_
                · intro w hSw
                  obtain h1 := hSw
                  first
                    | rfl
                    | (go_simp; done)
                try simp only [Act.put, List.setIfInBounds_toArray, List.set_cons_zero, List.set_cons_succ]
                refine wpAnyT_take (i := 5) (oi := { dst := some 46, op := Op.fieldAddr 34 (Operand.tmp 9) 1, type := 0, pos := "law.go:246", after := #[{ on := 4, ground := Ground.guard }], guard := some (4, false) }) (v := .pointer (some ⟨gf, 1, none⟩)) rfl (by kernel_rfl) (by kernel_rfl) (by kernel_rfl) (by kernel_rfl) (fun _ _ _ h => h) (Or.inl ⟨by rfl, ?_⟩) hHeld ?_
                · intro w hSw
                  obtain h1 := hSw
                  first
                    | rfl
                    | (go_simp; done)
                try simp only [Act.put, List.setIfInBounds_toArray, List.set_cons_zero, List.set_cons_succ]
                refine wpAnyT_take (i := 6) (oi := { dst := some 47, op := Op.load 3 (Operand.tmp 46), type := 3, pos := "law.go:246", after := #[{ on := 5, ground := Ground.data }, { on := 4, ground := Ground.guard }], guard := some (4, false) }) (v := .int .i64 fs) rfl (by kernel_rfl) (by kernel_rfl) (by kernel_rfl) (by kernel_rfl) (fun _ _ _ h => h) (Or.inl ⟨by rfl, ?_⟩) hHeld ?_
                · intro w hSw
                  obtain h1 := hSw
                  first
                    | rfl
                    | (go_simp; done)
                try simp only [Act.put, List.setIfInBounds_toArray, List.set_cons_zero, List.set_cons_succ]
                refine wpAnyT_take (i := 7) (oi := { dst := some 48, op := Op.move (Operand.tmp 4), type := 3, pos := "law.go:246", after := #[{ on := 4, ground := Ground.guard }], guard := some (4, false) }) (v := .int .i64 x) rfl (by kernel_rfl) (by kernel_rfl) (by kernel_rfl) (by kernel_rfl) (fun _ _ _ h => h) (Or.inl ⟨by rfl, ?_⟩) hHeld ?_
                · intro w hSw
                  obtain h1 := hSw
                  first
                    | rfl
                    | (go_simp; done)
                try simp only [Act.put, List.setIfInBounds_toArray, List.set_cons_zero, List.set_cons_succ]
                refine wpAnyT_take (i := 8) (oi := { dst := some 49, op := Op.move (Operand.tmp 3), type := 23, pos := "law.go:246", after := #[{ on := 4, ground := Ground.guard }], guard := some (4, false) }) (v := .pointer (some ⟨g, 0, none⟩)) rfl (by kernel_rfl) (by kernel_rfl) (by kernel_rfl) (by kernel_rfl) (fun _ _ _ h => h) (Or.inl ⟨by rfl, ?_⟩) hHeld ?_
                · intro w hSw
                  obtain h1 := hSw
                  first
                    | rfl
                    | (go_simp; done)
                try simp only [Act.put, List.setIfInBounds_toArray, List.set_cons_zero, List.set_cons_succ]
                refine wpAnyT_one (i := 9) (o := { dst := some 50, op := Op.call { callee := Callee.value (Operand.func 26), args := #[Operand.tmp 49], argTypes := #[23] }, type := 3, pos := "law.go:246", after := #[{ on := 8, ground := Ground.data }, { on := 4, ground := Ground.chain }, { on := 4, ground := Ground.guard }], guard := some (4, false) }) (by kernel_rfl) rfl (fun K hK => ?_)
                go_simp
                refine Calls.mono (waiting_ok g s.conn aq nq cq we ((unhide HIB).1.ch.row.cell 5) (by rw [unhide HCN1]; decide) (by rw [← unhide HNQ, ← unhide HAQ]; exact (unhide HIB).1.ch.row.cell 1)) ?_
                rintro r9 w9 ⟨rfl, rfl⟩
                go_wp2_with fail
                refine hK.out _ _ (fun _ => hHeld) ?_
                clear hK K
                try simp only [Act.put, List.setIfInBounds_toArray, List.set_cons_zero, List.set_cons_succ]
                refine wpAnyT_take (i := 10) (oi := { dst := some 51, op := Op.binOp BinOp.sub 3 (Operand.tmp 48) (Operand.tmp 50) 3, type := 3, pos := "law.go:246", after := #[{ on := 7, ground := Ground.data }, { on := 9, ground := Ground.data }, { on := 4, ground := Ground.guard }], guard := some (4, false) }) (v := .int .i64 (x - (nq : Int))) rfl (by kernel_rfl) (by kernel_rfl) (by kernel_rfl) (by kernel_rfl) (fun _ _ _ h => h) (Or.inl ⟨by rfl, ?_⟩) hHeld ?_
                · intro w hSw
                  obtain h1 := hSw
                  first
                    | rfl
                    | (go_simp; done)
                try simp only [Act.put, List.setIfInBounds_toArray, List.set_cons_zero, List.set_cons_succ]
                refine wpAnyT_take (i := 11) (oi := { dst := some 52, op := Op.binOp BinOp.add 3 (Operand.tmp 51) (Operand.const (Value.int IntKind.i64 4)) 3, type := 3, pos := "law.go:246", after := #[{ on := 10, ground := Ground.data }, { on := 4, ground := Ground.guard }], guard := some (4, false) }) (v := .int .i64 (x - (nq : Int) + 4)) rfl (by kernel_rfl) (by kernel_rfl) (by kernel_rfl) (by kernel_rfl) (fun _ _ _ h => h) (Or.inl ⟨by rfl, ?_⟩) hHeld ?_
                · intro w hSw
                  obtain h1 := hSw
                  first
                    | rfl
                    | (go_simp; done)
                try simp only [Act.put, List.setIfInBounds_toArray, List.set_cons_zero, List.set_cons_succ]
                refine wpAnyT_take (i := 12) (oi := { dst := some 53, op := Op.binOp BinOp.gtr 3 (Operand.tmp 47) (Operand.tmp 52) 3, type := 4, pos := "law.go:246", after := #[{ on := 6, ground := Ground.data }, { on := 11, ground := Ground.data }, { on := 4, ground := Ground.guard }], guard := some (4, false) }) (v := .bool false) rfl (by kernel_rfl) (by kernel_rfl) (by kernel_rfl) (by kernel_rfl) (fun _ _ _ h => h) (Or.inl ⟨by rfl, ?_⟩) hHeld ?_
                · intro w hSw
                  obtain h1 := hSw
                  first
                    | rfl
                    | (go_simp; done)
                try simp only [Act.put, List.setIfInBounds_toArray, List.set_cons_zero, List.set_cons_succ]
                refine wpAnyT_take (i := 13) (oi := { dst := some 54, op := Op.pick (Operand.tmp 45) (Operand.const (Value.bool true)) (Operand.tmp 53), type := 4, pos := "law.go:246", after := #[{ on := 4, ground := Ground.data }, { on := 12, ground := Ground.data }], guard := none }) (v := .bool false) rfl (by kernel_rfl) (by kernel_rfl) (by kernel_rfl) (by kernel_rfl) (fun _ _ _ h => h) (Or.inl ⟨by rfl, ?_⟩) hHeld ?_
                · intro w hSw
                  obtain h1 := hSw
                  first
                    | rfl
                    | (go_simp; done)
                try simp only [Act.put, List.setIfInBounds_toArray, List.set_cons_zero, List.set_cons_succ]
                refine wpAnyT_take (i := 14) (oi := { dst := some 55, op := Op.move (Operand.tmp 54), type := 4, pos := "law.go:246", after := #[{ on := 13, ground := Ground.data }, { on := 9, ground := Ground.chain }], guard := none }) (v := .bool false) rfl (by kernel_rfl) (by kernel_rfl) (by kernel_rfl) (by kernel_rfl) (fun _ _ _ h => h) (Or.inl ⟨by rfl, ?_⟩) hHeld ?_
                · intro w hSw
                  obtain h1 := hSw
                  first
                    | rfl
                    | (go_simp; done)
                try simp only [Act.put, List.setIfInBounds_toArray, List.set_cons_zero, List.set_cons_succ]
                refine wpAnyT_take (i := 15) (oi := { dst := some 56, op := Op.fieldAddr 34 (Operand.tmp 9) 1, type := 0, pos := "law.go:246", after := #[{ on := 14, ground := Ground.guard }], guard := some (14, false) }) (v := .pointer (some ⟨gf, 1, none⟩)) rfl (by kernel_rfl) (by kernel_rfl) (by kernel_rfl) (by kernel_rfl) (fun _ _ _ h => h) (Or.inl ⟨by rfl, ?_⟩) hHeld ?_
                · intro w hSw
                  obtain h1 := hSw
                  first
                    | rfl
                    | (go_simp; done)
                try simp only [Act.put, List.setIfInBounds_toArray, List.set_cons_zero, List.set_cons_succ]
                refine wpAnyT_take (i := 16) (oi := { dst := some 57, op := Op.load 3 (Operand.tmp 56), type := 3, pos := "law.go:246", after := #[{ on := 15, ground := Ground.data }, { on := 14, ground := Ground.guard }], guard := some (14, false) }) (v := .int .i64 fs) rfl (by kernel_rfl) (by kernel_rfl) (by kernel_rfl) (by kernel_rfl) (fun _ _ _ h => h) (Or.inl ⟨by rfl, ?_⟩) hHeld ?_
                · intro w hSw
                  obtain h1 := hSw
                  first
                    | rfl
                    | (go_simp; done)
                try simp only [Act.put, List.setIfInBounds_toArray, List.set_cons_zero, List.set_cons_succ]
                refine wpAnyT_take (i := 17) (oi := { dst := some 58, op := Op.move (Operand.tmp 4), type := 3, pos := "law.go:246", after := #[{ on := 14, ground := Ground.guard }], guard := some (14, false) }) (v := .int .i64 x) rfl (by kernel_rfl) (by kernel_rfl) (by kernel_rfl) (by kernel_rfl) (fun _ _ _ h => h) (Or.inl ⟨by rfl, ?_⟩) hHeld ?_
                · intro w hSw
                  obtain h1 := hSw
                  first
                    | rfl
                    | (go_simp; done)
                try simp only [Act.put, List.setIfInBounds_toArray, List.set_cons_zero, List.set_cons_succ]
                refine wpAnyT_take (i := 18) (oi := { dst := some 59, op := Op.binOp BinOp.gtr 3 (Operand.tmp 57) (Operand.tmp 58) 3, type := 4, pos := "law.go:246", after := #[{ on := 16, ground := Ground.data }, { on := 17, ground := Ground.data }, { on := 14, ground := Ground.guard }], guard := some (14, false) }) (v := .bool false) rfl (by kernel_rfl) (by kernel_rfl) (by kernel_rfl) (by kernel_rfl) (fun _ _ _ h => h) (Or.inl ⟨by rfl, ?_⟩) hHeld ?_
                · intro w hSw
                  obtain h1 := hSw
                  first
                    | rfl
                    | (go_simp; done)
                try simp only [Act.put, List.setIfInBounds_toArray, List.set_cons_zero, List.set_cons_succ]
                refine wpAnyT_take (i := 19) (oi := { dst := some 60, op := Op.pick (Operand.tmp 55) (Operand.const (Value.bool true)) (Operand.tmp 59), type := 4, pos := "law.go:246", after := #[{ on := 14, ground := Ground.data }, { on := 18, ground := Ground.data }], guard := none }) (v := .bool false) rfl (by kernel_rfl) (by kernel_rfl) (by kernel_rfl) (by kernel_rfl) (fun _ _ _ h => h) (Or.inl ⟨by rfl, ?_⟩) hHeld ?_
                · intro w hSw
                  obtain h1 := hSw
                  first
                    | rfl
                    | (go_simp; done)
                try simp only [Act.put, List.setIfInBounds_toArray, List.set_cons_zero, List.set_cons_succ]
                refine wpAnyT_done (by kernel_rfl) ?_ _
                go_wp2_with fail
                go_roundw
                case rel => exact ⟨j + 1, fs, by omega, by go_num, rfl, by omega, by omega, hide ⟨(unhide HIB).1, (unhide HIB).2, unhide HR1⟩⟩
                case measure => simp [intOf]; omega
            · have j1 : ¬ (j : Int) < (nf : Int) := by omega
              have HST := hide (unhide HI).1
              clear HI
              go_wp2_with fail
              refine Calls.mono (out_any w.heap.size g m vq (outS s) wr (unhide HST).ch ((unhide HST).inv.ok (by decide) (by omega)) ((unhide HST).inv.ti (by omega)) (unhide HST).inv.bo) ?_
              intro r w4 h4
              obtain ⟨L2, l2, rfl, i4, st4⟩ := (unhide HST).out h4
              have hk2 := i4.key
              rw [out_out] at hk2
              obtain rfl : L2 = [] := by simpa using hk2
              obtain ⟨al2, cl2, hl2⟩ := own_one i4.own
              subst hl2
              have HW : Hid (Wi w w4 g m vq (outS (outS s)) (k + 1) x) := hide ⟨st4.more, unhide HNX, by have := unhide HQL; show ((mapN freshP _ (mapN freshP _ s.q)).length : Int) ≤ s.next - 1; rw [mapN_len, mapN_len]; exact this⟩
              clear h4 i4 st4 hk2
              go_wp2_with fail
              go_roundw
              case rel => exact ⟨k + 1, x, _, _, by omega, by go_num, rfl, HW⟩
              case measure => simp [intOf]; omega
      · have i1 : ¬ (k : Int) < (n : Int) := by omega
        have HB := hide (unhide HI).st.bel
        clear HI
        go_wp2_with fail
        refine Calls.mono (awake_any _) ?_
        rintro r w2 ⟨rfl, hb⟩
        have HE : Hid (Below w.heap.size w w2) := hide ((unhide HB).trans (hb.mono (unhide HB).size))
        clear hb
        go_wp2_with fail
        go_ret
        exact ⟨rfl, unhide HE⟩
end Go.Proofs.Ytmkpphkdaiienaa
