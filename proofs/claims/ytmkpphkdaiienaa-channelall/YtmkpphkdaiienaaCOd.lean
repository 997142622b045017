/- ChannelOrder. -/
import Derived.Test.YtmkpphkdaiienaaCRt
namespace Go.Proofs.Ytmkpphkdaiienaa
set_option linter.unusedVariables false
set_option linter.unusedSimpArgs false
open Go.ChangeShapes Go.WideShapes Go.ChangeAt Go.RowKit Go.Joins Go.Deep

def P0 (g0 g1 m0 m1 : Nat) : PS := ⟨fun i => if i = 0 then g0 else g1, fun i => if i = 0 then m0 else m1, fun _ => .slice none 0 0, fun _ => newS 1, fun _ => .slice none 0 0, fun _ => [], fun _ => .slice none 0 0, fun _ => [], true⟩
theorem ordr_new (g0 g1 m0 m1 : Nat) : Ordr 0 (P0 g0 g1 m0 m1) := by
  have D : ∀ i j, Dir (P0 g0 g1 m0 m1) i j := fun i j => ⟨rfl, fun p hp => (by cases hp), fun p hp => (by cases hp), fun p hp => (by cases hp), rfl, fun k x hx => (by simp [P0] at hx)⟩
  exact ⟨⟨fun i _ => Inv.new 1, fun i _ => Nat.le_refl _, fun i _ => Nat.le_refl _, fun i _ f hf => (by cases hf), rfl⟩, D 0 1, D 1 0, fun i _ x hx => (by cases hx)⟩
theorem pair_new {w w1 w2 : World} {g0 g1 m0 m1 : Nat} (c0 : Ch w1 w.heap.size g0 m0 (.slice none 0 0) (newS 1)) (b1 : Below w.heap.size w w1) (c1 : Ch w2 w1.heap.size g1 m1 (.slice none 0 0) (newS 1)) (b2 : Below w1.heap.size w1 w2) :
    Pair (w2.alloc (.cells #[.pointer (some ⟨g0, 0, none⟩), .pointer (some ⟨g1, 0, none⟩), .slice none 0 0, .slice none 0 0, .slice none 0 0, .slice none 0 0, .slice none 0 0, .slice none 0 0, .bool true] 65)) w.heap.size w2.heap.size (P0 g0 g1 m0 m1) ∧ Below w.heap.size w (w2.alloc (.cells #[.pointer (some ⟨g0, 0, none⟩), .pointer (some ⟨g1, 0, none⟩), .slice none 0 0, .slice none 0 0, .slice none 0 0, .slice none 0 0, .slice none 0 0, .slice none 0 0, .bool true] 65)) := by
  have b3 : Below w2.heap.size w2 (w2.alloc (.cells #[.pointer (some ⟨g0, 0, none⟩), .pointer (some ⟨g1, 0, none⟩), .slice none 0 0, .slice none 0 0, .slice none 0 0, .slice none 0 0, .slice none 0 0, .slice none 0 0, .bool true] 65)) := (Below.refl _ _).alloc (Nat.le_refl _) _
  have T := two_new c0 c1 b2
  have hw1 := b1.size
  have hw2 := b2.size
  have nl : ∀ (B s : Nat) (e : TypeId) (W : World), W.ownsRow B e s (.slice none 0 0) 0 [] := fun B s e W => ⟨by simp, .inl ⟨rfl, rfl⟩⟩
  refine ⟨⟨RowAt.new w2 65 _, Nat.le_trans hw1 hw2, fun i hi => ?_, T.g, T.m, fun k hk => (by cases hk), fun i _ => nl _ _ _ _, fun k hk => (by cases hk), fun i _ => nl _ _ _ _, fun i j _ _ _ k hk => (by cases hk), fun i _ f hf => (by cases hf), fun i _ x hx => (by cases hx)⟩, (b1.trans (b2.mono hw1)).trans (b3.mono (Nat.le_trans hw1 hw2))⟩
  rcases two_cases hi with rfl | rfl
  · exact T.l.call b3
  · exact (T.r.call b3).base hw1
set_option maxRecDepth 100000 in
set_option maxHeartbeats 4000000 in
theorem order_law (a : Option Addr) (L : List Mv) (cap : Nat) (w : World) (h : Mvs w a L) (hc : L.length ≤ cap) (hm : cap ≤ maxLen) :
    Calls Try.prog 4 #[.slice a L.length cap] w fun e w' => e = .returned (.bool true) ∧ Below w.heap.size w w' := by
  have HS := hide (few_any a L cap w h hc hm)
  have HD := hide h
  unfold maxLen at hm
  obtain ⟨n, hn⟩ : ∃ n, L.length = n := ⟨_, rfl⟩
  have HN := hide hn
  rw [hn] at hc HS ⊢
  clear h hn
  go_enter Try.func4, Try.ntmps4
  go_wp2_with fail
  refine Calls.mono (unhide HS) ?_
  rintro r w' ⟨⟨sh, rfl, hsh⟩, rfl⟩
  clear HS
  cases sh with
  | false =>
    go_wp2_with fail
    refine Calls.mono (awake_any w) ?_
    rintro r w1 ⟨rfl, hb⟩
    have HB := hide hb
    clear hb
    go_wp2_with fail
    go_ret
    exact ⟨rfl, unhide HB⟩
  | true =>
    have HSH := hide (hsh rfl)
    have hn2 : n ≤ 200 := by have := (unhide HSH).1; have := unhide HN; omega
    clear hsh
    go_wp2_with fail
    refine Calls.mono (fresh_any w) ?_
    intro r w1 h1
    obtain ⟨g0, m0, rfl, c0, b1⟩ := h1.shape
    have HC0 := hide c0
    have HB1 := hide b1
    clear h1 c0 b1
    go_wp2_with fail
    refine Calls.mono (fresh_any w1) ?_
    intro r w2 h2
    obtain ⟨g1, m1, rfl, c1, b2⟩ := h2.shape
    have HP := hide (pair_new (unhide HC0) (unhide HB1) c1 b2)
    clear h2 c1 b2 HC0 HB1
    go_wp2_with fail
    obtain ⟨w3, hw3⟩ : ∃ z, w2.alloc (.cells #[.pointer (some ⟨g0, 0, none⟩), .pointer (some ⟨g1, 0, none⟩), .slice none 0 0, .slice none 0 0, .slice none 0 0, .slice none 0 0, .slice none 0 0, .slice none 0 0, .bool true] 65) = z := ⟨_, rfl⟩
    obtain ⟨gp, hgp⟩ : ∃ z, w2.heap.size = z := ⟨_, rfl⟩
    rw [hw3, hgp] at HP
    rw [hw3]
    try rw [hgp]
    clear hw3 hgp
    go_loopw [17] (fun i wr => ∃ (k : Nat) (P : PS), k ≤ n ∧ i = .int .i64 (k : Int) ∧ Hid (Pair wr w.heap.size gp P ∧ Ordr k P ∧ Below w.heap.size w wr)) (fun i _ => n - (intOf i).toNat)
    case atStart => exact ⟨0, _, by omega, rfl, hide ⟨(unhide HP).1, ordr_new _ _ _ _, (unhide HP).2⟩⟩
    case round =>
      clear HP
      obtain ⟨k, P, hk, rfl, HI⟩ := hrel
      by_cases g9 : k < n
      · have i1 : (k : Int) < (n : Int) := by omega
        have i0 : (0 : Int) ≤ (k : Int) := by omega
        obtain ⟨c, hc1⟩ : ∃ c, L[k]? = some c := ⟨_, List.getElem?_eq_getElem (by rw [unhide HN]; exact g9)⟩
        have HCM := hide (List.mem_of_getElem? hc1)
        rcases ((unhide HD).call (unhide HI).2.2).2 with h0 | ⟨b, off, rfl, hlt, hx⟩
        · rw [h0] at hc1; simp at hc1
        have hat := hx k c hc1
        obtain ⟨av, cv, hv⟩ := byt_shape ((unhide HD).1 c (unhide HCM)).byt
        have q0 : wr.cell? ⟨b, off + k * 3, none⟩ = some (.int .i64 c.op) := hat 0 _ rfl
        have q1 : wr.cell? ⟨b, off + k * 3 + 1, none⟩ = some (.int .i64 c.n) := hat 1 _ rfl
        have q2 : wr.cell? ⟨b, off + k * 3 + 2, none⟩ = some (.slice av c.b.length cv) := by rw [← hv]; exact hat 2 _ rfl
        have HV : Hid (Byt w (.slice av c.b.length cv) c.b) := hide (by rw [← hv]; exact ((unhide HD).1 c (unhide HCM)).byt)
        have HB256 := hide ((unhide HD).1 c (unhide HCM)).b256
        have HBL : Hid (c.b.length ≤ 1000000000) := hide (by have := totM_mem (unhide HCM); have := (unhide HSH).2; omega)
        clear hx hat hlt hc1 hv
        have b1 : Below wr.heap.size wr (wr.alloc (.cells #[.int .i64 c.op, .int .i64 c.n, .slice av c.b.length cv] 67)) := (Below.refl _ _).alloc (Nat.le_refl _) _
        have HI1 := hide (And.intro ((unhide HI).1.call b1) ((unhide HI).2.2.trans (b1.mono (unhide HI).2.2.size)))
        have HO := hide (unhide HI).2.1
        clear HI
        go_wp2_with fail
        obtain ⟨w4, hw4⟩ : ∃ z, wr.alloc (.cells #[.int .i64 c.op, .int .i64 c.n, .slice av c.b.length cv] 67) = z := ⟨_, rfl⟩
        rw [hw4] at HI1 ⊢
        clear hw4 b1 q0 q1 q2
        refine Calls.mono (move_any w.heap.size gp k P c.op c.n c.b _ w4 (unhide HI1).1 (unhide HO).good (by omega) ⟨(unhide HV).call (unhide HI1).2, (byt_lt (unhide HV)).imp id .inl⟩ (unhide HBL)) ?_
        rintro r w5 ⟨rfl, P', hst, h5, b5⟩
        have HO5 := hide ((unhide HO).step (unhide HB256) hst)
        have HP5 := hide h5
        have HB5 := hide ((unhide HI1).2.trans b5)
        clear hst h5 b5 HO HI1
        go_wp2_with fail
        refine Calls.mono (right_ok w.heap.size gp (k + 1) P' w5 (unhide HP5) (unhide HO5) (by omega)) ?_
        rintro r w6 ⟨rfl, h6, b6⟩
        have HI6 := hide (And.intro h6 (And.intro (unhide HO5) ((unhide HB5).trans (b6.mono (unhide HB5).size))))
        clear h6 b6 HO5 HP5 HB5
        go_wp2_with fail
        go_roundw
        case rel => exact ⟨k + 1, P', by omega, by go_num, HI6⟩
        case measure => simp [intOf]; omega
      · have i1 : ¬ (k : Int) < (n : Int) := by omega
        have HB := hide (unhide HI).2.2
        clear HI
        go_wp2_with fail
        refine Calls.mono (awake_any _) ?_
        rintro r w2 ⟨rfl, hb⟩
        have HE : Hid (Below w.heap.size w w2) := hide ((unhide HB).trans (hb.mono (unhide HB).size))
        clear hb
        go_wp2_with fail
        go_ret
        exact ⟨rfl, unhide HE⟩
end Go.Proofs.Ytmkpphkdaiienaa
