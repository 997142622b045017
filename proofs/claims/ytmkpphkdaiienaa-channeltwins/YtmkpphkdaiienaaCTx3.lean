/- ChannelTwins. -/
import Derived.Test.YtmkpphkdaiienaaCTx2
import Derived.Test.YtmkpphkdaiienaaCAw
namespace Go.Proofs.Ytmkpphkdaiienaa
set_option linter.unusedVariables false
set_option linter.unusedSimpArgs false
open Go.ChangeShapes Go.WideShapes Go.ChangeAt Go.RowKit Go.Joins Go.Deep

def EB (s : CS) : Prop := ∀ x ∈ s.early, x.body.length ≤ 1000000000
theorem EB.take {s : CS} (h : EB s) (c q a : Int) {b : List Nat} (hb : b.length ≤ 1000000000) (v : Value) : EB (takeS s c q a b v) := by
  unfold takeS
  split
  · exact h
  · split
    · exact h
    · intro x hx
      have hx' : x ∈ (tellE (keepS (ackS s a) q v b).early.length (keepS (ackS s a) q v b).want (keepS (ackS s a) q v b).early).2.2 := hx
      have h1 := tell_sub _ _ _ _ hx'
      unfold keepS at h1
      split at h1
      · exact h x h1
      · have h2 : x ∈ s.early ++ [⟨q, v, b⟩] := h1
        rcases List.mem_append.1 h2 with h3 | h3
        · exact h x h3
        · rw [List.mem_singleton] at h3
          subst h3
          exact hb
theorem EB.one {s : CS} (h : EB s) {c : Cl} (hc : c.b.length ≤ 1000000000) : EB (oneK s c) := by
  unfold oneK
  split
  · unfold sendS
    split
    · exact h
    · exact h
  · split
    · exact h.take _ _ _ hc _
    · split
      · exact h
      · exact h
theorem EB.run : ∀ {L : List Cl} {s : CS}, EB s → (∀ c ∈ L, c.b.length ≤ 1000000000) → EB (runK s L)
  | [], s, h, _ => h
  | c :: r, s, h, hc => EB.run (L := r) (h.one (hc c List.mem_cons_self)) (fun x hx => hc x (List.mem_cons_of_mem _ hx))
theorem EB.sim {s t : CS} (h : EB t) (hs : Sim s t) : EB s := fun x hx => by
  have h1 := look_self hs.early.ne hx
  have h2 := hs.early.look x.key
  rw [h1] at h2
  cases h3 : lookE x.key t.early with
  | none => rw [h3] at h2; cases h2
  | some y =>
    rw [h3] at h2
    simp only [Option.map_some, Option.some.injEq] at h2
    rw [h2]
    exact h y (lookE_mem h3).1
theorem EB.new (c : Int) : EB (newS c) := fun x hx => by cases hx
theorem Q256.new (c : Int) : Q256 (newS c) := fun x hx => by cases hx
theorem Sim.refl {N : Nat} {c : Int} {s : CS} (h : SimE s.early s.early) : Sim s s := ⟨rfl, rfl, rfl, h, rfl, rfl⟩
theorem Sim.new (c : Int) : Sim (newS c) (newS c) := ⟨rfl, rfl, rfl, SimE.nil, rfl, rfl⟩
theorem two_base {w : World} {B g m B' g' m' C : Nat} {vq vq' : Value} {s s' : CS} (h : Two w B g m vq s B' g' m' vq' s') (h1 : C ≤ B) (h2 : C ≤ B') : Two w C g m vq s C g' m' vq' s' := ⟨h.l.base h1, h.r.base h2, h.g, h.m, h.q⟩
theorem two_new2 {w w1 : World} {B g m g' m' : Nat} {vq vq' : Value} {s s' : CS} (h : Ch w B g m vq s) (c : Ch w1 w.heap.size g' m' vq' s') (hb : Below w.heap.size w w1) : Two w1 B g m vq s w.heap.size g' m' vq' s' := by
  have l := h.lt
  have := c.gB
  have := c.mB
  exact ⟨h.call hb, c, by have := l.g; omega, by have := l.m; omega, fun k h1 h2 => by have := l.q k h1; have := (c.own.lt k h2).1; omega⟩
/-- a list of frames that was told, and stays -/
structure Fr (w : World) (ks : List Key) (v : Value) (n : Nat) (LF : List Fm) : Prop where
  own : w.ownsRow 0 34 4 v n (fcs LF)
  len : LF.length = n
  bod : ∀ f ∈ LF, Own w f.v f.body
  key : LF.map Fm.key = ks
theorem Pl.fr {w wr : World} {B g m : Nat} {vq : Value} {N : Nat} {t : CS} {ks : List Key} {vr : Value} {s : CS} {lf : Value} {LF : List Fm} (h : Pl w wr B g m vq N t ks vr s lf LF) : Fr wr ks lf ks.length LF :=
  ⟨by rw [← h.key, List.length_map]; exact own_mono h.own (Nat.zero_le _), by rw [← h.key, List.length_map], h.bod, h.key⟩
theorem Fr.turn {w w' : World} {B g m : Nat} {vq : Value} {s : CS} {ks : List Key} {v : Value} {n : Nat} {LF : List Fm} (h : Fr w ks v n LF) (c : Ch w B g m vq s) (ho : Only (fp g m vq) w w') : Fr w' ks v n LF :=
  ⟨own_only h.own ho (avoid_fp c (by decide) (by decide) _ _ _ _ _ h.own), h.len, fun f hf => c.keep ho (h.bod f hf), h.key⟩
theorem Fr.call {w w' : World} {ks : List Key} {v : Value} {n : Nat} {LF : List Fm} (h : Fr w ks v n LF) (hb : Below w.heap.size w w') : Fr w' ks v n LF :=
  ⟨own_call h.own hb, h.len, fun f hf => own_call (h.bod f hf) hb, h.key⟩
theorem fr_b256 {w : World} {ks : List Key} {v : Value} {n : Nat} {LF : List Fm} (h : Fr w ks v n LF) (hk : ∀ k ∈ ks, ∀ y ∈ k.2.2.2, y < 256) : ∀ f ∈ LF, ∀ y ∈ f.body, y < 256 := fun f hf => hk f.key (by rw [← h.key]; exact List.mem_map.2 ⟨f, hf, rfl⟩)
theorem fr_eq {w : World} {ks : List Key} {v1 v2 : Value} {n : Nat} {L1 L2 : List Fm} (h1 : Fr w ks v1 n L1) (h2 : Fr w ks v2 n L2) (hk : ∀ k ∈ ks, ∀ y ∈ k.2.2.2, y < 256) (hn : n ≤ 1000000) :
    Calls Try.prog 24 #[v1, v2, .func (.func 25) #[] #[]] w fun r w' => r = .returned (.bool true) ∧ Below w.heap.size w w' :=
  feqf_same 0 v1 v2 n L1 L2 w h1.own h2.own h1.len h2.len h1.bod h2.bod (h1.key.trans h2.key.symm) (fr_b256 h1 hk) hn
def tA (L : List Cl) : CS := outS (runK (newS 1) L)
def kA (t : CS) (M : List Cl) : List Key := runO t M ++ outs (runK t M)
theorem tA_ok {w : World} {a : Option Addr} {L : List Cl} (h : Dos w a L) (hl : total L ≤ 32768) : Q256 (tA L) ∧ EB (tA L) :=
  ⟨(Q256.run (Q256.new 1) (fun c hc => (h.1 c hc).b256)).1.out, EB.run (EB.new 1) (fun c hc => by have := total_mem hc; omega)⟩
theorem kA_256 {w : World} {a : Option Addr} {L : List Cl} (h : Dos w a L) {t : CS} (ht : Q256 t) : ∀ k ∈ kA t L, ∀ y ∈ k.2.2.2, y < 256 := fun k hk => by
  have h1 := Q256.run (L := L) ht (fun c hc => (h.1 c hc).b256)
  rcases List.mem_append.1 hk with h2 | h2
  · exact h1.2 k h2
  · exact h1.1.outs k h2
theorem runO_len : ∀ (L : List Cl) (s : CS), (runO s L).length ≤ 4 * L.length
  | [], s => by simp [runO]
  | c :: r, s => by
    have h1 := runO_len r (oneK s c)
    have h2 : (oneO s c).length ≤ 4 := by
      unfold oneO
      split
      · simp
      · split
        · simp
        · split
          · simp
          · exact outs4 s
    show (oneO s c ++ runO (oneK s c) r).length ≤ 4 * (c :: r).length
    rw [List.length_append, List.length_cons]
    omega
theorem kA_len (t : CS) (M : List Cl) (h : M.length ≤ 200) : (runO t M ++ outs (runK t M)).length ≤ 1000000 := by
  have h1 := runO_len M t
  have h2 := outs4 (runK t M)
  rw [List.length_append]
  omega
theorem chB {w : World} {B g m : Nat} {vq : Value} {s : CS} (h : Ch w B g m vq s) : ∀ k, fp g m vq k → B ≤ k := fun k hk => by
  rcases hk with rfl | rfl | hk
  · exact h.gB
  · exact h.mB
  · exact (h.own.lt k hk).1
set_option maxRecDepth 100000 in
set_option maxHeartbeats 4000000 in
theorem twins_law (a b : Option Addr) (L M : List Cl) (cap cbp : Nat) (w : World) (h : Dos w a L) (hc : L.length ≤ cap) (hm : cap ≤ maxLen) (h' : Dos w b M) (hc' : M.length ≤ cbp) (hm' : cbp ≤ maxLen) :
    Calls Try.prog 8 #[.slice a L.length cap, .slice b M.length cbp] w fun e w' => e = .returned (.bool true) ∧ Below w.heap.size w w' := by
  have HS := hide (short_any a L cap w h hc hm)
  have HS2 := hide (short_any b M cbp w h' hc' hm')
  have HD := hide h
  have HD2 := hide h'
  have HC := hide (And.intro hc hm)
  have HC2 := hide (And.intro hc' hm')
  clear h h' hc hc' hm hm'
  obtain ⟨n, hn⟩ : ∃ n, L.length = n := ⟨_, rfl⟩
  have HN := hide hn
  obtain ⟨k, hk⟩ : ∃ n, M.length = n := ⟨_, rfl⟩
  have HK := hide hk
  rw [hn] at HS ⊢
  rw [hk] at HS2 ⊢
  clear hn hk
  go_enter Try.func8, Try.ntmps8
  go_wp2_with fail
  refine Calls.mono (unhide HS) ?_
  rintro r w' ⟨⟨sh, rfl, hsh⟩, rfl⟩
  clear HS
  cases sh with
  | false =>
    go_wp2_with fail
    refine Calls.mono (awake_any w) ?_
    rintro r w1 ⟨rfl, hb⟩
    have HB := hide hb
    clear hb
    go_wp2_with fail
    go_ret
    exact ⟨rfl, unhide HB⟩
  | true =>
    have HSH := hide (hsh rfl)
    clear hsh
    go_wp2_with fail
    refine Calls.mono (unhide HS2) ?_
    rintro r w' ⟨⟨sh, rfl, hsh⟩, rfl⟩
    clear HS2
    cases sh with
    | false =>
      go_wp2_with fail
      refine Calls.mono (awake_any w) ?_
      rintro r w1 ⟨rfl, hb⟩
      have HB := hide hb
      clear hb
      go_wp2_with fail
      go_ret
      exact ⟨rfl, unhide HB⟩
    | true =>
      have HSH2 := hide (hsh rfl)
      clear hsh
      go_wp2_with fail
      refine Calls.mono (fresh_any w) ?_
      intro r w1 h1
      obtain ⟨ga, ma, rfl, c1, b1⟩ := h1.shape
      have HA := hide c1
      have HB1 := hide b1
      clear h1 c1 b1
      go_wp2_with fail
      refine Calls.mono (fresh_any w1) ?_
      intro r w2 h2
      obtain ⟨gx, mx, rfl, c2, b2⟩ := h2.shape
      have HT := hide (two_base (two_new (unhide HA) c2 b2) (Nat.le_refl _) (unhide HB1).size)
      have HB2 := hide ((unhide HB1).trans (b2.mono (unhide HB1).size))
      clear h2 c2 b2 HA HB1
      go_wp2_with fail
      have HPL := hide (play_any w.heap.size ga ma _ _ _ a L cap 0 w w2 (unhide HT).l (Inv.new 1) (by decide) (Sim.new 1) (unhide HD) (Nat.le_refl _) (unhide HB2) (unhide HC).1 (unhide HC).2 (unhide HSH).1 (unhide HSH).2)
      rw [unhide HN] at HPL
      refine Calls.mono (unhide HPL) ?_
      clear HPL
      intro r w3 h3
      obtain ⟨l3, va, sa, F3, rfl, p3⟩ := h3.shape
      have HT3 := hide ((unhide HT).left p3.ch p3.tu)
      have HB3 := hide ((unhide HB2).trans (p3.tu.1.below (unhide HB2).size (chB (unhide HT).l)))
      have HIA := hide p3.inv
      have HSA := hide p3.sim
      clear h3 p3 HT HB2
      go_wp2_with fail
      have HPL := hide (play_any w.heap.size gx mx _ _ _ a L cap 0 w w3 (unhide HT3).r (Inv.new 1) (by decide) (Sim.new 1) (unhide HD) (Nat.le_refl _) (unhide HB3) (unhide HC).1 (unhide HC).2 (unhide HSH).1 (unhide HSH).2)
      rw [unhide HN] at HPL
      refine Calls.mono (unhide HPL) ?_
      clear HPL
      intro r w4 h4
      obtain ⟨l4, vx, sx, F4, rfl, p4⟩ := h4.shape
      have HT4 := hide ((unhide HT3).right p4.ch p4.tu)
      have HB4 := hide ((unhide HB3).trans (p4.tu.1.below (unhide HB3).size (chB (unhide HT3).r)))
      have HIX := hide p4.inv
      have HSX := hide p4.sim
      clear h4 p4 HT3 HB3
      have HQ := hide (tA_ok (unhide HD) (unhide HSH).2)
      obtain ⟨tt, htt⟩ : ∃ z, outS (runK (newS 1) L) = z := ⟨_, rfl⟩
      unfold tA at HQ
      rw [htt] at HQ HSA HSX
      rw [unhide HN] at HIA HIX
      clear htt
      go_wp2_with fail
      refine Calls.mono (clone36 w.heap.size ga ma (0 + n) va sa w4 (unhide HT4).l (unhide HIA) ((unhide HQ).2.sim (unhide HSA))) ?_
      intro r w5 h5
      obtain ⟨gb, mb, vb, sb, rfl, c5, i5, n5, b5⟩ := h5.shape
      have HAB := hide (two_base (two_new2 (unhide HT4).l c5 b5) (Nat.le_refl _) (unhide HB4).size)
      have HXB := hide (two_base (two_new2 (unhide HT4).r c5 b5) (Nat.le_refl _) (unhide HB4).size)
      have HAX := hide ((unhide HT4).call b5)
      have HSB := hide (i5.symm.trans (unhide HSA))
      have HIB := hide n5
      have HB5 := hide ((unhide HB4).trans (b5.mono (unhide HB4).size))
      clear h5 c5 i5 n5 b5 HT4 HB4
      have nn : n ≤ 200 := by have := (unhide HSH).1; rw [unhide HN] at this; exact this
      go_wp2_with fail
      have HPL := hide (play_any w.heap.size ga ma _ _ _ b M cbp (0 + n) w w5 ((unhide HAB).l) (unhide HIA) (by omega) (unhide HSA) (unhide HD2) (Nat.le_refl _) (unhide HB5) (unhide HC2).1 (unhide HC2).2 (unhide HSH2).1 (unhide HSH2).2)
      rw [unhide HK] at HPL
      refine Calls.mono (unhide HPL) ?_
      clear HPL
      intro r w6 h6
      obtain ⟨l1, va2, sa2, F1, rfl, p6⟩ := h6.shape
      have HB6 := hide ((unhide HB5).trans (p6.tu.1.below (unhide HB5).size (chB ((unhide HAB).l))))
      have HF1 := hide p6.fr
      have HIA2 := hide p6.inv
      have HSA2 := hide p6.sim
      have HAB2 := hide ((unhide HAB).left p6.ch p6.tu)
      have HAX2 := hide ((unhide HAX).left p6.ch p6.tu)
      have HXB2 : Hid (Two w6 w.heap.size gx mx vx sx w.heap.size gb mb vb sb) := hide ⟨(unhide HAX2).r, (unhide HAB2).r, (unhide HXB).g, (unhide HXB).m, (unhide HXB).q⟩
      clear h6 p6
      go_wp2_with fail
      have HPL := hide (play_any w.heap.size gb mb _ _ _ b M cbp (0 + n) w w6 ((unhide HAB2).r) (unhide HIB) (by omega) (unhide HSB) (unhide HD2) (Nat.le_refl _) (unhide HB6) (unhide HC2).1 (unhide HC2).2 (unhide HSH2).1 (unhide HSH2).2)
      rw [unhide HK] at HPL
      refine Calls.mono (unhide HPL) ?_
      clear HPL
      intro r w7 h6
      obtain ⟨l2, vb2, sb2, F2, rfl, p6⟩ := h6.shape
      have HB7 := hide ((unhide HB6).trans (p6.tu.1.below (unhide HB6).size (chB ((unhide HAB2).r))))
      have HF2 := hide p6.fr
      have HIB2 := hide p6.inv
      have HSB2 := hide p6.sim
      have HF1 := hide ((unhide HF1).turn ((unhide HAB2).r) p6.tu.1)
      have HAB3 := hide ((unhide HAB2).right p6.ch p6.tu)
      have HXB3 := hide ((unhide HXB2).right p6.ch p6.tu)
      have HAX3 : Hid (Two w7 w.heap.size ga ma va2 sa2 w.heap.size gx mx vx sx) := hide ⟨(unhide HAB3).l, (unhide HXB3).l, (unhide HAX2).g, (unhide HAX2).m, (unhide HAX2).q⟩
      clear h6 p6
      go_wp2_with fail
      have HPL := hide (play_any w.heap.size gx mx _ _ _ b M cbp (0 + n) w w7 ((unhide HXB3).l) (unhide HIX) (by omega) (unhide HSX) (unhide HD2) (Nat.le_refl _) (unhide HB7) (unhide HC2).1 (unhide HC2).2 (unhide HSH2).1 (unhide HSH2).2)
      rw [unhide HK] at HPL
      refine Calls.mono (unhide HPL) ?_
      clear HPL
      intro r w8 h6
      obtain ⟨l3, vx2, sx2, F3, rfl, p6⟩ := h6.shape
      have HB8 := hide ((unhide HB7).trans (p6.tu.1.below (unhide HB7).size (chB ((unhide HXB3).l))))
      have HF3 := hide p6.fr
      have HIX2 := hide p6.inv
      have HSX2 := hide p6.sim
      have HF1 := hide ((unhide HF1).turn ((unhide HXB3).l) p6.tu.1)
      have HF2 := hide ((unhide HF2).turn ((unhide HXB3).l) p6.tu.1)
      have HXB4 := hide ((unhide HXB3).left p6.ch p6.tu)
      have HAX4 := hide ((unhide HAX3).right p6.ch p6.tu)
      clear h6 p6
      have H256 := hide (kA_256 (unhide HD2) (unhide HQ).1)
      unfold kA at H256
      have HKL := hide (kA_len tt M (unhide HSH2).1)
      obtain ⟨ks, hks⟩ : ∃ z, runO tt M ++ outs (runK tt M) = z := ⟨_, rfl⟩
      rw [hks] at H256 HF1 HF2 HF3 HKL
      clear hks
      have HCA := hide (unhide HAX4).l
      have HCB := hide (unhide HXB4).r
      obtain ⟨wa, hwa⟩ : ∃ z, sa2.want = z := ⟨_, rfl⟩
      have hwb : sb2.want = wa := by rw [← hwa]; exact ((unhide HSB2).want).trans (unhide HSA2).want.symm
      have t0 : 0 < wa := by have := (unhide HIA2).w0; omega
      have t1 : wa ≤ 1000000 := by have := (unhide HIA2).w1; have := (unhide HSH2).1; rw [unhide HK] at this; have := unhide HK; omega
      have HWA := hide hwa
      have HWB := hide hwb
      clear hwa hwb
      go_wp2_with fail
      refine Calls.mono (fr_eq (unhide HF1) (unhide HF2) (unhide H256) (unhide HKL)) ?_
      rintro r w9 ⟨rfl, b9⟩
      have HF1' := hide ((unhide HF1).call b9)
      have HF3' := hide ((unhide HF3).call b9)
      have HCA' := hide ((unhide HCA).call b9)
      have HCB' := hide ((unhide HCB).call b9)
      have HB9 := hide ((unhide HB8).trans (b9.mono (unhide HB8).size))
      clear b9
      go_wp2_with fail
      refine Calls.mono (fr_eq (unhide HF1') (unhide HF3') (unhide H256) (unhide HKL)) ?_
      rintro r wz ⟨rfl, b9⟩
      have hca := (unhide HCA').call b9
      have hcb := (unhide HCB').call b9
      have HBz := hide ((unhide HB9).trans (b9.mono (unhide HB9).size))
      have HC1 : Hid (wz.cell? ⟨ga, 5, none⟩ = some (.int .i64 1)) := hide (by rw [← (unhide HIA2).conn]; exact hca.row.cell 5)
      have HC2 : Hid (wz.cell? ⟨ga, 2, none⟩ = some (.int .i64 wa)) := hide (by rw [← unhide HWA]; exact hca.row.cell 2)
      have HC3 : Hid (wz.cell? ⟨gb, 5, none⟩ = some (.int .i64 1)) := hide (by rw [← (unhide HIB2).conn]; exact hcb.row.cell 5)
      have HC4 : Hid (wz.cell? ⟨gb, 2, none⟩ = some (.int .i64 wa)) := hide (by rw [← unhide HWB]; exact hcb.row.cell 2)
      clear b9 hca hcb
      go_wp2_with fail
      refine Calls.mono (taken_ok ga 1 wa wz (unhide HC1) (by decide) (unhide HC2) t0 (by omega)) ?_
      rintro r w9 ⟨rfl, rfl⟩
      go_wp2_with fail
      refine Calls.mono (taken_ok gb 1 wa wz (unhide HC3) (by decide) (unhide HC4) t0 (by omega)) ?_
      rintro r w9 ⟨rfl, rfl⟩
      go_wp2_with fail
      refine Calls.mono (awake_any wz) ?_
      rintro r w6 ⟨rfl, hb⟩
      have HE : Hid (Below w.heap.size w w6) := hide ((unhide HBz).trans (hb.mono (unhide HBz).size))
      clear hb
      go_wp2_with fail
      go_ret
      exact ⟨rfl, unhide HE⟩
end Go.Proofs.Ytmkpphkdaiienaa
