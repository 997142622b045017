/- ChannelAgain. -/
import Derived.Test.YtmkpphkdaiienaaCSt
namespace Go.Proofs.Ytmkpphkdaiienaa
set_option linter.unusedVariables false
set_option linter.unusedSimpArgs false
open Go.ChangeShapes Go.WideShapes Go.ChangeAt Go.RowKit Go.Joins Go.Deep

theorem infoDo : (Try.prog.info? 36).map (fun i => (i.zero, i.size, i.bytes)) = some (some (.agg #[.int .i64 0, .int .i64 0, .int .i64 0, .int .i64 0, .slice none 0 0]), 5, 56) := by kernel_rfl
def dcs (L : List Cl) : List Value := L.flatMap Cl.cs
theorem dcs_len (L : List Cl) : (dcs L).length = L.length * 5 := by
  induction L with
  | nil => rfl
  | cons p r ih => simp only [dcs, List.flatMap_cons, List.length_append] at *; rw [ih]; simp [Cl.cs]; omega
theorem dcs_get : ∀ (q : List Cl) (i f : Nat) (p : Cl), q[i]? = some p → f < 5 → (dcs q)[i * 5 + f]? = p.cs[f]?
  | [], i, f, p, h, _ => by simp at h
  | x :: r, 0, f, p, h, hf => by
    obtain rfl : x = p := by simpa using h
    simp only [dcs, List.flatMap_cons, Nat.zero_mul, Nat.zero_add]
    rw [List.getElem?_append_left (by simp [Cl.cs]; omega)]
  | x :: r, i + 1, f, p, h, hf => by
    simp only [dcs, List.flatMap_cons]
    rw [List.getElem?_append_right (by simp [Cl.cs]; omega)]
    rw [show (i + 1) * 5 + f - x.cs.length = i * 5 + f by simp [Cl.cs]; omega]
    exact dcs_get r i f p (by simpa using h) hf
theorem byt_one {w : World} {v : Value} {l : List Nat} (h : Byt w v l) : v.oneCell' = true := by
  rcases h with ⟨rfl, _⟩ | ⟨a, c, rfl, _⟩ <;> rfl
theorem dcs_one {w : World} {L : List Cl} (h : ∀ c ∈ L, ClOk w c) : ∀ u ∈ dcs L, u.oneCell' = true := by
  intro u hu
  simp only [dcs, List.mem_flatMap] at hu
  obtain ⟨p, hp, hu⟩ := hu
  simp only [Cl.cs, List.mem_cons, List.not_mem_nil, or_false] at hu
  rcases hu with rfl | rfl | rfl | rfl | rfl
  · rfl
  · rfl
  · rfl
  · rfl
  · exact byt_one (h p hp).byt
/-- the cells that come in -/
theorem Dos.news {w : World} {a : Option Addr} {L : List Cl} (h : Dos w a L) : ∀ b, a = some b → ∀ (j : Nat) (u : Value), (dcs L)[j]? = some u → w.cell? (b.add j) = some u := by
  intro b hb j u hu
  rcases h.2 with rfl | ⟨g, off, e, _, hx⟩
  · simp [dcs] at hu
  · rw [hb] at e
    injection e with e
    subst e
    have hj : j < L.length * 5 := by rw [← dcs_len]; exact (List.getElem?_eq_some_iff.1 hu).1
    have hi : j / 5 < L.length := by omega
    obtain ⟨c, hc⟩ : ∃ c, L[j / 5]? = some c := ⟨_, List.getElem?_eq_getElem hi⟩
    have hg := dcs_get L (j / 5) (j % 5) c hc (Nat.mod_lt _ (by decide))
    rw [show j / 5 * 5 + j % 5 = j by omega, hu] at hg
    have := hx _ c hc (j % 5) u hg.symm
    rw [add_plain]
    rw [show off + j / 5 * 5 + j % 5 = off + j by omega] at this
    exact this
theorem Dos.none {w : World} {L : List Cl} (h : Dos w none L) : L = [] := by
  rcases h.2 with h | ⟨b, off, e, _⟩
  · exact h
  · cases e
theorem dos_own {w : World} {B n cap : Nat} {a : Option Addr} {L : List Cl} (h : w.ownsRow B 36 5 (.slice a n cap) L.length (dcs L)) (hok : ∀ c ∈ L, ClOk w c) : Dos w a L := by
  refine ⟨hok, ?_⟩
  rcases h.2 with ⟨_, h0⟩ | ⟨gq, c9, cur, e, hB, hr, h1, h2, h3, h4⟩
  · exact .inl (List.eq_nil_of_length_eq_zero h0)
  · injection e with e1 e2 e3
    subst e1
    have hr' : RowAt w gq 36 cur.toList := hr
    refine .inr ⟨gq, 0, rfl, hr'.lt, fun i c hc f u hu => ?_⟩
    have hi : i < L.length := (List.getElem?_eq_some_iff.1 hc).1
    have hf : f < 5 := (List.getElem?_eq_some_iff.1 hu).1
    rw [hr'.cell, ← hu, ← dcs_get L i f c hc hf, ← h4, List.getElem?_take_of_lt (by omega), Nat.zero_add]
set_option maxRecDepth 100000 in
set_option maxHeartbeats 4000000 in
theorem again_law (a : Option Addr) (L : List Cl) (cap : Nat) (fc fq fa : Int) (uv : Value) (ul : List Nat) (w : World) (h : Dos w a L) (hc : L.length ≤ cap) (hm : cap ≤ maxLen) (hr : L.length * 56 ≤ 140737488351232) (hu : Byt w uv ul) (hu256 : ∀ y ∈ ul, y < 256) (hfq : fq ≤ 9223372036854775807) :
    Calls Try.prog 7 #[.slice a L.length cap, frV fc fq fa uv] w fun e w' => e = .returned (.bool true) ∧ Below w.heap.size w w' := by
  obtain ⟨au, cu, huv⟩ := byt_shape hu
  subst huv
  unfold maxLen at hm
  unfold frV
  have bx : Below w.heap.size w (w.alloc (.cells #[.int .i64 fc, .int .i64 fq, .int .i64 fa, .slice au ul.length cu] 34)) := (Below.refl _ _).alloc (Nat.le_refl _) _
  have HBX := hide (RowAt.new w 34 [.int .i64 fc, .int .i64 fq, .int .i64 fa, .slice au ul.length cu])
  have HB0 := hide bx
  have HD := hide (h.call bx)
  have HU := hide (hu.call bx)
  obtain ⟨i36, hi1, hi2, hi3, hi4⟩ := info_parts infoDo
  have hi36 := hide (And.intro hi1 (And.intro hi2 (And.intro hi3 hi4)))
  clear hi1 hi2 hi3 hi4
  obtain ⟨n, hn⟩ : ∃ n, L.length = n := ⟨_, rfl⟩
  have HN := hide hn
  rw [hn] at hc hr ⊢
  have HF256 := hide hu256
  have x0 := (unhide HBX).cell 0
  have x1 := (unhide HBX).cell 1
  have x2 := (unhide HBX).cell 2
  have x3 := (unhide HBX).cell 3
  simp only [List.getElem?_cons_zero, List.getElem?_cons_succ] at x0 x1 x2 x3
  clear h hn hu bx hu256
  go_enter Try.func7, Try.ntmps7
  go_wp2_with (at_builtin; refine unhide ?_)
  refine hide ?_
  clear x0 x1 x2 x3
  have b2 : Below (w.alloc (.cells #[.int .i64 fc, .int .i64 fq, .int .i64 fa, .slice au ul.length cu] 34)).heap.size (w.alloc (.cells #[.int .i64 fc, .int .i64 fq, .int .i64 fa, .slice au ul.length cu] 34)) ((w.alloc (.cells #[.int .i64 fc, .int .i64 fq, .int .i64 fa, .slice au ul.length cu] 34)).alloc (.cells #[.int .i64 0, .int .i64 fc, .int .i64 fq, .int .i64 fa, .slice au ul.length cu] 36)) := (Below.refl _ _).alloc (Nat.le_refl _) _
  have HR2 := hide (RowAt.new (w.alloc (.cells #[.int .i64 fc, .int .i64 fq, .int .i64 fa, .slice au ul.length cu] 34)) 36 [.int .i64 0, .int .i64 fc, .int .i64 fq, .int .i64 fa, .slice au ul.length cu])
  have HB2 := hide b2
  have HBX2 := hide ((unhide HBX).below b2 (unhide HBX).lt)
  have HD2 := hide ((unhide HD).call b2)
  have HDB := HD
  have HUB := HU
  have HU2 := hide ((unhide HU).call b2)
  obtain ⟨wb, hwb⟩ : ∃ z, (w.alloc (.cells #[.int .i64 fc, .int .i64 fq, .int .i64 fa, .slice au ul.length cu] 34)) = z := ⟨_, rfl⟩
  have hsz : wb.heap.size = w.heap.size + 1 := by rw [← hwb, size_alloc]
  rw [hwb] at HR2 HB2 HBX2 HD2 HU2 HB0 HDB HUB ⊢
  rw [hsz] at HR2
  obtain ⟨wc, hwc⟩ : ∃ z, wb.alloc (.cells #[.int .i64 0, .int .i64 fc, .int .i64 fq, .int .i64 fa, .slice au ul.length cu] 36) = z := ⟨_, rfl⟩
  rw [hwc] at HR2 HB2 HBX2 HD2 HU2 ⊢
  have HOW : Hid (wc.ownsRow wb.heap.size 36 5 (.slice (some ⟨w.heap.size + 1, 0, none⟩) 1 1) 1 [.int .i64 0, .int .i64 fc, .int .i64 fq, .int .i64 fa, .slice au ul.length cu]) := hide ⟨rfl, .inr ⟨_, 1, #[.int .i64 0, .int .i64 fc, .int .i64 fq, .int .i64 fa, .slice au ul.length cu], rfl, by omega, unhide HR2, Nat.le_refl _, by unfold maxLen; omega, rfl, rfl⟩⟩
  have HBL : Hid (wb.heap.size ≤ wc.heap.size) := hide (unhide HB2).size
  have HNW := hide (unhide HD2).news
  have HNO : Hid (a = none → n = 0) := hide (fun e => by have := unhide HD2; rw [e] at this; rw [← unhide HN, this.none]; rfl)
  have HL5 : Hid ((dcs L).length = n * 5) := hide (by rw [dcs_len, unhide HN])
  have H1 := hide (dcs_one (unhide HD2).1)
  have HSZ := hide hsz
  clear hwb hwc b2 HR2 hsz HBX HD HU
  refine wpList_append_src wc rfl _ _ _ rfl wb.heap.size 36 i36 _ 5 56 Try.underlying22 (unhide hi36).1 (unhide hi36).2.1 (unhide hi36).2.2.1 (unhide hi36).2.2.2 (by rfl) (by decide) _ 1 _ (by rfl) (unhide HOW) a n cap (dcs L) (by rfl) (unhide HL5) (unhide HNO) (unhide HNW) (unhide H1) (by unfold maxLen; omega) (by omega) (unhide HBL) ?_
  intro ad' cap' w3 ho3 hg3
  have b3 : Below wb.heap.size wc w3 := (grown_only hg3).below (unhide HBL) (fun k hk => ((unhide HOW).lt k hk).1)
  have b4 : Below wb.heap.size wb w3 := (unhide HB2).trans b3
  have HB3 := hide ((unhide HB0).trans (b4.mono (unhide HB0).size))
  have HBX3 := hide ((unhide HBX2).below b3 (by have := unhide HSZ; omega))
  have HD3 := hide ((unhide HDB).call b4)
  have HU3 := hide ((unhide HUB).call b4)
  obtain ⟨cap9, hcap9⟩ : ∃ z, cap' = z := ⟨_, rfl⟩
  have hcaps : 1 + n ≤ cap' ∧ cap' ≤ maxLen := by
    rcases ho3.2 with ⟨_, h0⟩ | ⟨g9, c9, cur9, e9, _, _, h2, h3, _⟩
    · omega
    · injection e9 with _ _ e9; subst e9; exact ⟨h2, h3⟩
  have hcons : (⟨0, fc, fq, fa, .slice au ul.length cu, ul⟩ :: L : List Cl).length = 1 + n := by rw [List.length_cons, unhide HN]; omega
  have HS := hide (short_any ad' (⟨0, fc, fq, fa, .slice au ul.length cu, ul⟩ :: L) cap' w3 (dos_own (by rw [hcons]; exact ho3) (fun c hc => by
    rcases List.mem_cons.1 hc with rfl | hc
    · exact ⟨unhide HU3, hfq, unhide HF256⟩
    · exact (unhide HD3).1 c hc)) (by rw [hcons]; exact hcaps.1) hcaps.2)
  rw [hcons] at HS
  clear ho3 hg3 b3 b4 hcaps hcons hcap9 HOW HBL HNW HNO HL5 H1 HBX2 HD2 HU2 HB2 HB0 hi36 HDB HUB
  go_wp2_with fail
  refine Calls.mono (unhide HS) ?_
  rintro r w' ⟨⟨sh, rfl, hsh⟩, rfl⟩
  clear HS
  cases sh with
  | false =>
    go_wp2_with fail
    refine Calls.mono (awake_any w3) ?_
    rintro r w1 ⟨rfl, hb⟩
    have HB := hide ((unhide HB3).trans (hb.mono (unhide HB3).size))
    clear hb
    go_wp2_with fail
    go_ret
    exact ⟨rfl, unhide HB⟩
  | true =>
    have hs1 := hsh rfl
    have hn2 : n ≤ 200 := by have := hs1.1; rw [List.length_cons] at this; have := unhide HN; omega
    have HTO : Hid (total L ≤ 32768) := hide (by have := hs1.2; unfold total at this ⊢; rw [List.map_cons, List.sum_cons] at this; omega)
    have HUL : Hid (ul.length ≤ 32768) := hide (by have := hs1.2; unfold total at this; rw [List.map_cons, List.sum_cons] at this; have h9 : ul.length + (L.map fun c => c.b.length).sum ≤ 32768 := this; omega)
    clear hsh hs1
    obtain ⟨w0, hw0⟩ : ∃ z, w3 = z := ⟨_, rfl⟩
    rw [hw0] at HB3 HBX3 HD3 HU3 ⊢
    clear hw0
    have HD := HD3
    go_wp2_with fail
    refine Calls.mono (fresh_any w0) ?_
    intro r w1 h1
    obtain ⟨g, m, rfl, c1, b1⟩ := h1.shape
    have HST := hide (St.start c1 b1)
    clear h1 c1 b1 HD3
    go_wp2_with fail
    go_loopw [24] (fun i wr => ∃ (k : Nat) (s : CS) (vq : Value), k ≤ n ∧ i = .int .i64 (k : Int) ∧ Hid (St w0 wr g m vq s k)) (fun i _ => n - (intOf i).toNat)
    case atStart => exact ⟨0, _, _, by omega, rfl, HST⟩
    case round =>
      clear HST
      obtain ⟨k, s, vq, hk, rfl, HI⟩ := hrel
      by_cases g1 : k < n
      · have i1 : (k : Int) < (n : Int) := by omega
        have i0 : (0 : Int) ≤ (k : Int) := by omega
        obtain ⟨c, hc1⟩ : ∃ c, L[k]? = some c := ⟨_, List.getElem?_eq_getElem (by rw [unhide HN]; exact g1)⟩
        have HCM := hide (List.mem_of_getElem? hc1)
        rcases ((unhide HD).call (unhide HI).bel).2 with h0 | ⟨b, off, rfl, hlt, hx⟩
        · rw [h0] at hc1; simp at hc1
        have hat := hx k c hc1
        obtain ⟨av, cv, hv⟩ := byt_shape ((unhide HD).1 c (unhide HCM)).byt
        have q0 : wr.cell? ⟨b, off + k * 5, none⟩ = some (.int .i64 c.op) := hat 0 _ rfl
        have q1 : wr.cell? ⟨b, off + k * 5 + 1, none⟩ = some (.int .i64 c.conn) := hat 1 _ rfl
        have q2 : wr.cell? ⟨b, off + k * 5 + 2, none⟩ = some (.int .i64 c.seq) := hat 2 _ rfl
        have q3 : wr.cell? ⟨b, off + k * 5 + 3, none⟩ = some (.int .i64 c.ack) := hat 3 _ rfl
        have q4 : wr.cell? ⟨b, off + k * 5 + 4, none⟩ = some (.slice av c.b.length cv) := by rw [← hv]; exact hat 4 _ rfl
        have HV : Hid (Byt w0 (.slice av c.b.length cv) c.b) := hide (by rw [← hv]; exact ((unhide HD).1 c (unhide HCM)).byt)
        have HSQ := hide ((unhide HD).1 c (unhide HCM)).seq
        have HBL : Hid (c.b.length ≤ 1000000000) := hide (by have := total_mem (unhide HCM); have := unhide HTO; omega)
        clear hx hat hlt hc1 hv
        have kd := kind6 c.op
        have b1 : Below wr.heap.size wr (wr.alloc (.cells #[.int .i64 c.op, .int .i64 c.conn, .int .i64 c.seq, .int .i64 c.ack, .slice av c.b.length cv] 36)) := (Below.refl _ _).alloc (Nat.le_refl _) _
        have HX := hide (RowAt.new wr 36 [.int .i64 c.op, .int .i64 c.conn, .int .i64 c.seq, .int .i64 c.ack, .slice av c.b.length cv])
        obtain ⟨kn, hkn⟩ : ∃ z, wrap64 ((IntKind.u64.wrap c.op).tmod 6) = z := ⟨_, rfl⟩
        rw [hkn] at kd
        rcases kd with rfl | rfl | rfl | rfl | rfl | rfl
        · go_wp2_with fail
          have HI := hide ((unhide HI).call b1)
          obtain ⟨wk, hwk⟩ : ∃ z, (wr.alloc (.cells #[.int .i64 c.op, .int .i64 c.conn, .int .i64 c.seq, .int .i64 c.ack, .slice av c.b.length cv] 36)) = z := ⟨_, rfl⟩
          obtain ⟨gk, hgk⟩ : ∃ z, wr.heap.size = z := ⟨_, rfl⟩
          rw [hwk] at HI HX ⊢
          rw [hgk] at HX
          clear hwk hgk b1 q0 q1 q2 q3 q4 hkn
          refine Calls.mono (send_any w0.heap.size g m vq _ s c.b wk (unhide HI).ch ((unhide HI).inv.ok (by decide) (by omega)) ((unhide HV).call (unhide HI).bel) (unhide HI).bel.size (unhide HBL)) ?_
          intro r w2 h2
          obtain ⟨v, vq2, rfl, h3⟩ := (unhide HI).send h2
          have HW := hide h3
          clear h2 h3 HI
          go_wp2_with fail
          go_roundw
          case rel => exact ⟨k + 1, _, _, by omega, by go_num, HW⟩
          case measure => simp [intOf]; omega
        · go_wp2_with fail
          have HI := hide ((unhide HI).call b1)
          obtain ⟨wk, hwk⟩ : ∃ z, (wr.alloc (.cells #[.int .i64 c.op, .int .i64 c.conn, .int .i64 c.seq, .int .i64 c.ack, .slice av c.b.length cv] 36)) = z := ⟨_, rfl⟩
          obtain ⟨gk, hgk⟩ : ∃ z, wr.heap.size = z := ⟨_, rfl⟩
          rw [hwk] at HI HX ⊢
          rw [hgk] at HX
          clear hwk hgk b1 q0 q1 q2 q3 q4 hkn
          refine Calls.mono (send_any w0.heap.size g m vq _ s c.b wk (unhide HI).ch ((unhide HI).inv.ok (by decide) (by omega)) ((unhide HV).call (unhide HI).bel) (unhide HI).bel.size (unhide HBL)) ?_
          intro r w2 h2
          obtain ⟨v, vq2, rfl, h3⟩ := (unhide HI).send h2
          have HW := hide h3
          clear h2 h3 HI
          go_wp2_with fail
          go_roundw
          case rel => exact ⟨k + 1, _, _, by omega, by go_num, HW⟩
          case measure => simp [intOf]; omega
        · go_wp2_with fail
          have HI := hide ((unhide HI).call b1)
          obtain ⟨wk, hwk⟩ : ∃ z, (wr.alloc (.cells #[.int .i64 c.op, .int .i64 c.conn, .int .i64 c.seq, .int .i64 c.ack, .slice av c.b.length cv] 36)) = z := ⟨_, rfl⟩
          obtain ⟨gk, hgk⟩ : ∃ z, wr.heap.size = z := ⟨_, rfl⟩
          rw [hwk] at HI HX ⊢
          rw [hgk] at HX
          clear hwk hgk b1 q0 q1 q2 q3 q4 hkn
          refine Calls.mono (take_any w0.heap.size g m vq _ s c.conn c.seq c.ack c.b wk (unhide HI).ch ((unhide HI).inv.ok (by decide) (by omega)) (unhide HI).inv.eok ((unhide HI).vis (unhide HV)) (unhide HBL) (unhide HSQ) (by have := (unhide HI).inv.el; omega)) ?_
          intro r w2 h2
          obtain ⟨o, v, vq2, rfl, -, h3⟩ := (unhide HI).take h2
          have HW := hide h3
          clear h2 h3 HI
          go_wp2_with fail
          go_roundw
          case rel => exact ⟨k + 1, _, _, by omega, by go_num, HW⟩
          case measure => simp [intOf]; omega
        · go_wp2_with fail
          have HI := hide ((unhide HI).call b1)
          obtain ⟨wk, hwk⟩ : ∃ z, (wr.alloc (.cells #[.int .i64 c.op, .int .i64 c.conn, .int .i64 c.seq, .int .i64 c.ack, .slice av c.b.length cv] 36)) = z := ⟨_, rfl⟩
          obtain ⟨gk, hgk⟩ : ∃ z, wr.heap.size = z := ⟨_, rfl⟩
          rw [hwk] at HI HX ⊢
          rw [hgk] at HX
          clear hwk hgk b1 q0 q1 q2 q3 q4 hkn
          refine Calls.mono (take_any w0.heap.size g m vq _ s c.conn c.seq c.ack c.b wk (unhide HI).ch ((unhide HI).inv.ok (by decide) (by omega)) (unhide HI).inv.eok ((unhide HI).vis (unhide HV)) (unhide HBL) (unhide HSQ) (by have := (unhide HI).inv.el; omega)) ?_
          intro r w2 h2
          obtain ⟨o, v, vq2, rfl, -, h3⟩ := (unhide HI).take h2
          have HW := hide h3
          clear h2 h3 HI
          go_wp2_with fail
          go_roundw
          case rel => exact ⟨k + 1, _, _, by omega, by go_num, HW⟩
          case measure => simp [intOf]; omega
        · go_wp2_with fail
          have HI := hide ((unhide HI).call b1)
          obtain ⟨wk, hwk⟩ : ∃ z, (wr.alloc (.cells #[.int .i64 c.op, .int .i64 c.conn, .int .i64 c.seq, .int .i64 c.ack, .slice av c.b.length cv] 36)) = z := ⟨_, rfl⟩
          obtain ⟨gk, hgk⟩ : ∃ z, wr.heap.size = z := ⟨_, rfl⟩
          rw [hwk] at HI HX ⊢
          rw [hgk] at HX
          clear hwk hgk b1 q0 q1 q2 q3 q4 hkn
          refine Calls.mono (tick_any w0.heap.size g m vq s wk (unhide HI).ch (unhide HI).inv.q (by rw [(unhide HI).inv.conn]; decide) ((unhide HI).inv.ti (by omega))) ?_
          intro r w2 h2
          obtain ⟨rfl, h3⟩ := (unhide HI).tick h2
          have HW := hide h3
          clear h2 h3 HI
          go_wp2_with fail
          go_roundw
          case rel => exact ⟨k + 1, _, _, by omega, by go_num, HW⟩
          case measure => simp [intOf]; omega
        · go_wp2_with fail
          have HI := hide ((unhide HI).call b1)
          obtain ⟨wk, hwk⟩ : ∃ z, (wr.alloc (.cells #[.int .i64 c.op, .int .i64 c.conn, .int .i64 c.seq, .int .i64 c.ack, .slice av c.b.length cv] 36)) = z := ⟨_, rfl⟩
          obtain ⟨gk, hgk⟩ : ∃ z, wr.heap.size = z := ⟨_, rfl⟩
          rw [hwk] at HI HX ⊢
          rw [hgk] at HX
          clear hwk hgk b1 q0 q1 q2 q3 q4 hkn
          refine Calls.mono (out_any w0.heap.size g m vq s wk (unhide HI).ch ((unhide HI).inv.ok (by decide) (by omega)) ((unhide HI).inv.ti (by omega)) (unhide HI).inv.bo) ?_
          intro r w3 h3
          obtain ⟨LF, lf, rfl, -, st3⟩ := (unhide HI).out h3
          have HW := hide st3.more
          clear h3 st3 HI
          go_wp2_with fail
          go_roundw
          case rel => exact ⟨k + 1, _, _, by omega, by go_num, HW⟩
          case measure => simp [intOf]; omega
      · have i1 : ¬ (k : Int) < (n : Int) := by omega
        have hk2 : k ≤ 200 := by omega
        obtain ⟨gb, hgb⟩ : ∃ z, w.heap.size = z := ⟨_, rfl⟩
        have HGB := hide hgb
        rw [hgb] at HBX3
        have hxr := (unhide HBX3).below (unhide HI).bel (unhide HBX3).lt
        have x0 : wr.cell? ⟨w.heap.size, 0, none⟩ = some (.int .i64 fc) := by rw [hgb]; exact hxr.cell 0
        have x1 : wr.cell? ⟨w.heap.size, 1, none⟩ = some (.int .i64 fq) := by rw [hgb]; exact hxr.cell 1
        have x2 : wr.cell? ⟨w.heap.size, 2, none⟩ = some (.int .i64 fa) := by rw [hgb]; exact hxr.cell 2
        have x3 : wr.cell? ⟨w.heap.size, 3, none⟩ = some (.slice au ul.length cu) := by rw [hgb]; exact hxr.cell 3
        clear hgb hxr
        go_wp2_with fail
        refine Calls.mono (take_any w0.heap.size g m vq _ s fc fq fa ul wr (unhide HI).ch ((unhide HI).inv.ok (by decide) (by omega)) (unhide HI).inv.eok ((unhide HI).vis (unhide HU3)) (by have := unhide HUL; omega) hfq (by have := (unhide HI).inv.el; omega)) ?_
        intro r w4 h4
        obtain ⟨o4, v4, vq4, rfl, i4, st4⟩ := (unhide HI).take h4
        have HI4 := hide st4
        have HO4 := hide i4.own
        clear i4
        have HAG := hide (fun v' => take_again (unhide HI).inv fc fq fa ul v4 v')
        clear h4 st4 HI x0 x1 x2 x3
        obtain ⟨E1, hE1⟩ : ∃ z, takeE s fc fq fa ul.length = z := ⟨_, rfl⟩
        rw [hE1] at HAG ⊢
        obtain ⟨s4, hs4⟩ : ∃ z, takeS s fc fq fa ul v4 = z := ⟨_, rfl⟩
        rw [hs4] at HI4 HAG
        clear hE1 hs4
        obtain ⟨wt, hwt⟩ : ∃ z, s4.want = z := ⟨_, rfl⟩
        have HWT := hide hwt
        have hxr := (unhide HBX3).below (unhide HI4).bel (unhide HBX3).lt
        have x0 : w4.cell? ⟨w.heap.size, 0, none⟩ = some (.int .i64 fc) := by rw [unhide HGB]; exact hxr.cell 0
        have x1 : w4.cell? ⟨w.heap.size, 1, none⟩ = some (.int .i64 fq) := by rw [unhide HGB]; exact hxr.cell 1
        have x2 : w4.cell? ⟨w.heap.size, 2, none⟩ = some (.int .i64 fa) := by rw [unhide HGB]; exact hxr.cell 2
        have x3 : w4.cell? ⟨w.heap.size, 3, none⟩ = some (.slice au ul.length cu) := by rw [unhide HGB]; exact hxr.cell 3
        have t0 : 0 < wt := by have := (unhide HI4).inv.w0; omega
        have t1 : wt ≤ 1000000 := by have := (unhide HI4).inv.w1; omega
        have HC1 : Hid (w4.cell? ⟨g, 5, none⟩ = some (.int .i64 1)) := hide (by rw [← (unhide HI4).inv.conn]; exact (unhide HI4).ch.row.cell 5)
        have HC2 : Hid (w4.cell? ⟨g, 2, none⟩ = some (.int .i64 wt)) := hide (by rw [← unhide HWT]; exact (unhide HI4).ch.row.cell 2)
        clear hxr hwt
        obtain ⟨a4, k4, ho4⟩ : ∃ a k, o4 = .slice a (takeO s fc fq fa ul v4).length k := own_one (unhide HO4)
        subst ho4
        go_wp2_with fail
        refine Calls.mono (taken_ok g 1 wt w4 (unhide HC1) (by decide) (unhide HC2) t0 (by omega)) ?_
        rintro r w9 ⟨rfl, rfl⟩
        go_wp2_with fail
        refine Calls.mono (take_any w0.heap.size g m vq4 _ s4 fc fq fa ul w4 (unhide HI4).ch ((unhide HI4).inv.ok (by decide) (by omega)) (unhide HI4).inv.eok ((unhide HI4).vis (unhide HU3)) (by have := unhide HUL; omega) hfq (by have := (unhide HI4).inv.el; omega)) ?_
        intro r w5 h5
        obtain ⟨o5, v5, vq5, rfl, i5, st5⟩ := (unhide HI4).take h5
        have HI5 := hide st5
        have ho5 := i5.own
        rw [(unhide HAG v5).2.1] at ho5
        rw [(unhide HAG v5).1]
        obtain ⟨a5, k5, ha5⟩ := own_one ho5
        subst ha5
        have HC3 : Hid (w5.cell? ⟨g, 5, none⟩ = some (.int .i64 1)) := hide (by rw [← (unhide HI5).inv.conn]; exact (unhide HI5).ch.row.cell 5)
        have HC4 : Hid (w5.cell? ⟨g, 2, none⟩ = some (.int .i64 wt)) := hide (by rw [← unhide HWT, ← (unhide HAG v5).2.2]; exact (unhide HI5).ch.row.cell 2)
        have HB5 := hide ((unhide HB3).trans ((unhide HI5).bel.mono (unhide HB3).size))
        clear h5 i5 st5 ho5 HI4 HAG x0 x1 x2 x3
        go_wp2_with fail
        refine Calls.mono (taken_ok g 1 wt w5 (unhide HC3) (by decide) (unhide HC4) t0 (by omega)) ?_
        rintro r w9 ⟨rfl, rfl⟩
        go_wp2_with fail
        refine Calls.mono (awake_any w5) ?_
        rintro r w6 ⟨rfl, hb⟩
        have HE : Hid (Below w.heap.size w w6) := hide ((unhide HB5).trans (hb.mono (unhide HB5).size))
        clear hb
        go_wp2_with fail
        go_ret
        exact ⟨rfl, unhide HE⟩
end Go.Proofs.Ytmkpphkdaiienaa
