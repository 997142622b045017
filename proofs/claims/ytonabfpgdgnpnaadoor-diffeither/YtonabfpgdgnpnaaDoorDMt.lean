/- Meet. -/
import Derived.Test.YtonabfpgdgnpnaaDoorDSw
import Derived.Test.YtonabfpgdgnpnaaDoorDMe
namespace Go.Proofs.YtonabfpgdgnpnaaDoor
set_option linter.unusedVariables false
set_option linter.unusedSimpArgs false
open Go.ChangeShapes Go.WideShapes Go.ChangeAt Go.RowKit Go.Joins Go.Deep

def StrR (l : List Pt) (w : World) (r : Ending) (w' : World) : Prop := ∃ v, r = .returned v ∧ w'.ownsRow w.heap.size 84 2 v (sgL l).1.length (cut2C (sgL l).1) ∧ Below w.heap.size w w'
theorem StrR.shape {l : List Pt} {w w' : World} {r : Ending} (h : StrR l w r w') : ∃ a n c, r = .returned (.slice a n c) ∧ (sgL l).1.length = n ∧ w'.ownsRow w.heap.size 84 2 (.slice a n c) n (cut2C (sgL l).1) ∧ Below w.heap.size w w' := by
  obtain ⟨v, rfl, ho, hb⟩ := h
  obtain ⟨a, c, rfl, _, _⟩ := own_sl3 ho
  exact ⟨a, _, c, rfl, rfl, ho, hb⟩
theorem lead_str {w : World} {B : Nat} {a : Option Addr} {c : Nat} {l : List Pt} {x y : List CP} (ho : OwnP w B (.slice a l.length c) l) (nf : NfG 0 l) (at_ : atomsL l = At.can (leadA x y)) (hx : x.length ≤ 1024) (hy : y.length ≤ 1024) : Calls Tryd.prog 46 #[.slice a l.length c] w fun r w' => StrR l w r w' := by
  obtain ⟨d1, k1⟩ := lead_ed nf at_ hx hy
  obtain ⟨a5, c5, e, hp, _, _⟩ := ho.slice
  injection e with e1 _ e3
  subst e1 e3
  exact stretches_any a l c _ _ w hp d1 (by omega)
theorem sgL_len (l : List Pt) : (sgL l).1.length ≤ l.length := by
  have h : ∀ (l : List Pt) (s : List Cut2 × Nat × Int), (l.foldl sgS s).1.length ≤ s.1.length + l.length := by
    intro l
    induction l with
    | nil => intro s; simp
    | cons p l ih =>
      intro s
      rw [List.foldl_cons]
      have h1 := ih (sgS s p)
      have h2 : (sgS s p).1.length ≤ s.1.length + 1 := by
        unfold sgS
        split
        · simp
        · split
          · split <;> simp <;> omega
          · simp
      simp only [List.length_cons]
      omega
  have := h l ([], 0, 0)
  unfold sgL
  simpa using this
theorem lead_few {l : List Pt} {x y : List CP} (nf : NfG 0 l) (e : atomsL l = At.can (leadA x y)) (hx : x.length ≤ 1024) (hy : y.length ≤ 1024) : (sgL l).1.length ≤ 2048 := Nat.le_trans (sgL_len l) (lead_ed nf e hx hy).2
theorem cut2_rd {w : World} {B n c : Nat} {a : Option Addr} {L : List Cut2} (h : w.ownsRow B 84 2 (.slice a n c) n (cut2C L)) {i : Nat} {x : Cut2} (hx : L[i]? = some x) : ∃ g, a = some ⟨g, 0, none⟩ ∧ w.cell? ⟨g, i * 2, none⟩ = some (.int .i64 (x.1 : Int)) ∧ w.cell? ⟨g, i * 2 + 1, none⟩ = some (.int .i64 (x.2 : Int)) := by
  have hn : 0 < n := by
    have h1 := h.1
    rw [cut2C_len] at h1
    have := (List.getElem?_eq_some_iff.1 hx).1
    omega
  obtain ⟨g, rfl, _, _⟩ := own_g2 h hn
  exact ⟨g, rfl, (own_c2 h (cut2_at hx).1).1, (own_c2 h (cut2_at hx).2).1⟩
def MeetR (b a c : ByteArray) (w : World) (r : Ending) (w' : World) : Prop := (firstE [b, a, c] ≠ 0 ∧ r = .returned (.tuple #[.int .i64 0, .int .i64 (firstE [b, a, c])]) ∨ firstE [b, a, c] = 0 ∧ ∃ x y z l m, Tx b x ∧ Tx a y ∧ Tx c z ∧ x.length ≤ 1024 ∧ y.length ≤ 1024 ∧ z.length ≤ 1024 ∧ NfG 0 l ∧ atomsL l = At.can (leadA x y) ∧ NfG 0 m ∧ atomsL m = At.can (leadA x z) ∧ r = .returned (.tuple #[.int .i64 (meetN (sgL l).1 (sgL m).1 : Int), .int .i64 0])) ∧ Below w.heap.size w w'
set_option maxRecDepth 100000 in
set_option maxHeartbeats 4000000 in
theorem meet_any (a b c : ByteArray) (w : World) (hT : UT w) (hsa : a.size ≤ 1099511627776) (hsb : b.size ≤ 1099511627776) (hsc : c.size ≤ 1099511627776) : Calls Tryd.prog 24 #[.string a, .string b, .string c] w fun r w' => MeetR a b c w r w' := by
  have HU : Hid (∀ W, Below w.heap.size w W → UT W) := hide (fun W h => hT.call h)
  have bP : Below w.heap.size w (w.alloc (.cells #[.string a, .string b, .string c] 9)) := (Below.refl _ _).alloc (Nat.le_refl _) _
  have KR := hide (read_any w.heap.size (.slice (some ⟨w.heap.size, 0, none⟩) 3 3) [a, b, c] (w.alloc (.cells #[.string a, .string b, .string c] 9)) (hT.call bP) (own_row (RowAt.new w 9 [.string a, .string b, .string c]) (Nat.le_refl _) (by show 3 ≤ maxLen; unfold maxLen; omega)) (by simp) (by simp only [List.mem_cons, List.not_mem_nil, or_false]; rintro s (rfl | rfl | rfl) <;> assumption))
  have B1 := hide bP
  obtain ⟨w1, hw1⟩ : ∃ z, w.alloc (.cells #[.string a, .string b, .string c] 9) = z := ⟨_, rfl⟩
  have HW1 := hide hw1
  rw [hw1] at KR B1
  clear hT bP hw1
  go_enter Tryd.func24, Tryd.ntmps24
  go_wp2_with fail
  try rw [unhide HW1]
  clear HW1
  refine Calls.mono (unhide KR) ?_
  rintro r w2 ⟨h2, b2⟩
  have B2 := hide ((unhide B1).trans (b2.mono (unhide B1).size))
  have hBs := (unhide B1).size
  clear b2 KR
  rcases h2 with ⟨hf, rfl⟩ | ⟨hf, v, vs, X, rfl, hrd, htx, hxl⟩
  · obtain ⟨e, he⟩ : ∃ z, firstE [a, b, c] = z := ⟨_, rfl⟩
    have HE := hide he
    have he0 : (e != 0) = true := by rw [← he]; simp [hf]
    have HF := hide hf
    rw [he]
    clear hf he
    go_wp2_with fail
    go_ret2
    exact ⟨.inl ⟨unhide HF, by rw [unhide HE]; rfl⟩, unhide B2⟩
  · obtain ⟨x, y, z, rfl⟩ := three_get hxl
    have hvl := hrd.len
    obtain ⟨u0, u1, u2, rfl⟩ := three_get hvl
    obtain ⟨ht0, hl0⟩ := htx 0 _ _ rfl rfl
    have ho0 := hrd.each 0 _ _ rfl rfl
    obtain ⟨a0, c0, rfl, _, _⟩ := own_sl ho0
    obtain ⟨ht1, hl1⟩ := htx 1 _ _ rfl rfl
    have ho1 := hrd.each 1 _ _ rfl rfl
    obtain ⟨a1, c1, rfl, _, _⟩ := own_sl ho1
    obtain ⟨ht2, hl2⟩ := htx 2 _ _ rfl rfl
    have ho2 := hrd.each 2 _ _ rfl rfl
    obtain ⟨a2, c2, rfl, _, _⟩ := own_sl ho2
    obtain ⟨gl, cl, rfl, hc0, -, hlc, hlm⟩ := own_rd hrd.own (i := 0) rfl
    have hc1 : w2.cell? ⟨gl, 1, none⟩ = some (.slice a1 y.length c1) := row_cell (n := 3) (by exact hrd.own) rfl
    have hc2 : w2.cell? ⟨gl, 2, none⟩ = some (.slice a2 z.length c2) := row_cell (n := 3) (by exact hrd.own) rfl
    have KL := hide (fun W (hb : Below w2.heap.size w2 W) => lead_any (unhide HU W ((unhide B2).trans (hb.mono (unhide B2).size))) (own_call ho0 hb) (own_call ho1 hb) ht0.cps ht1.cps hl0 hl1)
    have KM := hide (fun W (hb : Below w2.heap.size w2 W) => lead_any (unhide HU W ((unhide B2).trans (hb.mono (unhide B2).size))) (own_call ho0 hb) (own_call ho2 hb) ht0.cps ht2.cps hl0 hl2)
    have HT := hide (And.intro hf (And.intro ht0 (And.intro ht1 (And.intro ht2 (And.intro hl0 (And.intro hl1 hl2))))))
    have HS : Hid (∀ W, Below w2.heap.size w2 W → W.cell? ⟨gl, 0, none⟩ = some (.slice a0 x.length c0) ∧ W.cell? ⟨gl, 1, none⟩ = some (.slice a1 y.length c1) ∧ W.cell? ⟨gl, 2, none⟩ = some (.slice a2 z.length c2)) := hide (fun W hW => ⟨kept hW hc0, kept hW hc1, kept hW hc2⟩)
    have k0 : Below w2.heap.size w2 w2.drew := (Below.refl _ _).drew
    obtain ⟨n, hn⟩ : ∃ z, x.length = z := ⟨_, rfl⟩
    obtain ⟨m, hm⟩ : ∃ z, y.length = z := ⟨_, rfl⟩
    obtain ⟨q, hq⟩ : ∃ u, z.length = u := ⟨_, rfl⟩
    rw [hn, hm] at KL
    rw [hn, hq] at KM
    rw [hn, hm, hq] at HS
    rw [show ([x, y, z] : List (List CP)).length = 3 from rfl] at *
    clear hf hrd htx hxl hvl ht0 ht1 ht2 hl0 hl1 hl2 ho0 ho1 ho2 hc0 hc1 hc2 hn hm hq
    go_wp2_with fail
    go_region_held3 (fun W => W.cell? ⟨gl, 0, none⟩ = some (.slice a0 n c0) ∧ W.cell? ⟨gl, 1, none⟩ = some (.slice a1 m c1) ∧ W.cell? ⟨gl, 2, none⟩ = some (.slice a2 q c2))
      (first | exact unhide HS _ k0 | exact unhide HS _ k2 | exact unhide HS _ k1)
      (first | (go_at_call 30; with_reducible refine Calls.mono (unhide KM _ k0) ?_; rintro e w3 h3; obtain ⟨a3, l3, c3, rfl, o3, nf3, at3, b3⟩ := LeadR.shape h3; have k1 : Below w2.heap.size w2 w3 := k0.trans (b3.mono k0.size)) | (go_at_call 46; with_reducible refine Calls.mono (lead_str o3 nf3 at3 (unhide HT).2.2.2.2.1 (unhide HT).2.2.2.2.2.2) ?_; rintro e w4 h4; obtain ⟨a4, n4, c4, rfl, hn4, o4, b4⟩ := StrR.shape h4; have k2 : Below w2.heap.size w2 w4 := k1.trans (b4.mono k1.size)))
    have HN3 := hide (And.intro nf3 at3)
    have HO4 := hide (And.intro hn4 o4)
    have hf4 := lead_few nf3 at3 (unhide HT).2.2.2.2.1 (unhide HT).2.2.2.2.2.2
    rw [hn4] at hf4
    have j0 : Below w2.heap.size w2 w4.drew := k2.trans ((Below.refl w4.heap.size w4).drew.mono k2.size)
    have e0 : Below w4.heap.size w4 w4.drew := (Below.refl _ _).drew
    clear k0 k1 k2 b3 b4 o3 nf3 at3 hn4 o4 KM
    go_wp2_with fail
    go_region_held3 (fun W => W.cell? ⟨gl, 0, none⟩ = some (.slice a0 n c0) ∧ W.cell? ⟨gl, 1, none⟩ = some (.slice a1 m c1) ∧ W.cell? ⟨gl, 2, none⟩ = some (.slice a2 q c2))
      (first | exact unhide HS _ j0 | exact unhide HS _ j2 | exact unhide HS _ j1)
      (first | (go_at_call 30; with_reducible refine Calls.mono (unhide KL _ j0) ?_; rintro e w5 h5; obtain ⟨a5, l5, c5, rfl, o5, nf5, at5, b5⟩ := LeadR.shape h5; have j1 : Below w2.heap.size w2 w5 := j0.trans (b5.mono j0.size)) | (go_at_call 46; with_reducible refine Calls.mono (lead_str o5 nf5 at5 (unhide HT).2.2.2.2.1 (unhide HT).2.2.2.2.2.1) ?_; rintro e w6 h6; obtain ⟨a6, n6, c6, rfl, hn6, o6, b6⟩ := StrR.shape h6; have j2 : Below w2.heap.size w2 w6 := j1.trans (b6.mono j1.size)))
    have hf6 := lead_few nf5 at5 (unhide HT).2.2.2.2.1 (unhide HT).2.2.2.2.2.1
    rw [hn6] at hf6
    have e5 : Below w4.heap.size w4 w5 := e0.trans (b5.mono e0.size)
    have e6 : Below w4.heap.size w4 w6 := e5.trans (b6.mono e5.size)
    have HN5 := hide (And.intro nf5 at5)
    have HX6 := hide (And.intro hn6 o6)
    have HY6 := hide (own_call (unhide HO4).2 e6)
    have B6 := hide ((unhide B2).trans (j2.mono (unhide B2).size))
    clear j0 j1 j2 e0 e5 e6 b5 b6 o5 nf5 at5 hn6 o6 HS KL
    go_wp2_with fail
    go_loopw [10, 44] (fun nv iv wr => ∃ (k r : Nat), k ≤ n6 ∧ iv = .int .i64 (k : Int) ∧ nv = .int .i64 (r : Int) ∧ r ≤ k * 2048 ∧ Hid (r = meetN ((sgL l5).1.take k) (sgL l3).1) ∧ Hid (Below w6.heap.size w6 wr)) (fun _ iv _ => ((n6 : Int) - intOf iv).toNat)
    case atStart => exact ⟨0, 0, by omega, by simp, by simp, by omega, hide rfl, hide (Below.refl _ _)⟩
    case round =>
      obtain ⟨k, r, hk, rfl, rfl, hr, HR, HB⟩ := hrel
      by_cases c1 : (k : Int) < (n6 : Int)
      · obtain ⟨wo, hwo⟩ : ∃ z, z = wr := ⟨_, rfl⟩
        subst hwo
        obtain ⟨x1, hx1⟩ : ∃ z, (sgL l5).1[k]? = some z := ⟨_, List.getElem?_eq_getElem (by rw [(unhide HX6).1]; omega)⟩
        obtain ⟨f1, t1⟩ := x1
        obtain ⟨g6, rfl, p0, p1⟩ := cut2_rd (own_call (unhide HX6).2 (unhide HB)) hx1
        have HX1 := hide hx1
        dsimp only at p0 p1
        have hal : Below wo.heap.size wo (wo.alloc (.cells #[.int .i64 (f1 : Int), .int .i64 (t1 : Int)] 84)) := (Below.refl _ _).alloc (Nat.le_refl _) _
        have HRX := hide (RowAt.new wo 84 [.int .i64 (f1 : Int), .int .i64 (t1 : Int)])
        have HBX := hide ((unhide HB).trans (hal.mono (unhide HB).size))
        have k0 : (0 : Int) ≤ (k : Int) := by omega
        clear hx1 hal
        go_wp2_with fail
        go_loopw [10, 50] (fun nv jv wr => ∃ (j r2 : Nat), j ≤ n4 ∧ jv = .int .i64 (j : Int) ∧ nv = .int .i64 (r2 : Int) ∧ r2 ≤ k * 2048 + j ∧ Hid (r2 = r + ((sgL l3).1.take j).countP (mtB (f1, t1))) ∧ Hid (RowAt wr wo.heap.size 84 [.int .i64 (f1 : Int), .int .i64 (t1 : Int)]) ∧ Hid (Below w6.heap.size w6 wr)) (fun _ jv _ => ((n4 : Int) - intOf jv).toNat)
        case atStart => exact ⟨0, r, by omega, by simp, rfl, by omega, hide (by simp), HRX, HBX⟩
        case round =>
          clear HRX HBX p0 p1
          obtain ⟨j, r2, hj, rfl, rfl, hr2, HR2, HRX, HBX⟩ := hrel
          by_cases c2 : (j : Int) < (n4 : Int)
          · obtain ⟨y1, hy1⟩ : ∃ z, (sgL l3).1[j]? = some z := ⟨_, List.getElem?_eq_getElem (by rw [(unhide HO4).1]; omega)⟩
            obtain ⟨f2, t2⟩ := y1
            obtain ⟨g4, rfl, q0, q1⟩ := cut2_rd (own_call (unhide HY6) (unhide HBX)) hy1
            dsimp only at q0 q1
            have hal : Below wr.heap.size wr (wr.alloc (.cells #[.int .i64 (f2 : Int), .int .i64 (t2 : Int)] 84)) := (Below.refl _ _).alloc (Nat.le_refl _) _
            have HRX2 := hide ((unhide HRX).below hal (unhide HRX).lt)
            have HBX2 := hide ((unhide HBX).trans (hal.mono (unhide HBX).size))
            have xr0 := (unhide HRX2).cell 0
            have xr1 := (unhide HRX2).cell 1
            have HCT := hide (count_take (x := (f1, t1)) hy1)
            have j0 : (0 : Int) ≤ (j : Int) := by omega
            have hr3 : r2 ≤ 5000000 := by omega
            clear hy1 hal HRX HBX
            by_cases h1 : f1 ≤ t2
            · have h1I : (f1 : Int) ≤ (t2 : Int) := by omega
              by_cases h2 : f2 ≤ t1
              · have h2I : (f2 : Int) ≤ (t1 : Int) := by omega
                have HR4 : Hid (r2 + 1 = r + ((sgL l3).1.take (j + 1)).countP (mtB (f1, t1))) := hide (by rw [unhide HCT, if_pos (by unfold mtB; simp [h1, h2]), ← Nat.add_assoc, ← unhide HR2])
                go_wp2_with fail
                exact ⟨⟨j + 1, r2 + 1, by omega, by simp, by simp, by omega, HR4, HRX2, HBX2⟩, by simp [intOf]; omega⟩
              · have h2I : ¬ (f2 : Int) ≤ (t1 : Int) := by omega
                have HR4 : Hid (r2 = r + ((sgL l3).1.take (j + 1)).countP (mtB (f1, t1))) := hide (by rw [unhide HCT, if_neg (by unfold mtB; simp; omega), Nat.add_zero, ← unhide HR2])
                go_wp2_with fail
                exact ⟨⟨j + 1, r2, by omega, by simp, rfl, by omega, HR4, HRX2, HBX2⟩, by simp [intOf]; omega⟩
            · have h1I : ¬ (f1 : Int) ≤ (t2 : Int) := by omega
              have HR4 : Hid (r2 = r + ((sgL l3).1.take (j + 1)).countP (mtB (f1, t1))) := hide (by rw [unhide HCT, if_neg (by unfold mtB; simp; omega), Nat.add_zero, ← unhide HR2])
              go_wp2_with fail
              exact ⟨⟨j + 1, r2, by omega, by simp, rfl, by omega, HR4, HRX2, HBX2⟩, by simp [intOf]; omega⟩
          · obtain rfl : n4 = j := by omega
            have HR4 : Hid (r2 = meetN ((sgL l5).1.take (k + 1)) (sgL l3).1) := hide (by
              rw [meetN_take (unhide HX1), ← unhide HR]
              have h9 := unhide HR2
              rw [List.take_of_length_le (by rw [(unhide HO4).1]; exact Nat.le_refl _)] at h9
              exact h9)
            have hr4 : r2 ≤ (k + 1) * 2048 := by omega
            go_wp2_with fail
            exact ⟨⟨k + 1, r2, by omega, by simp, rfl, hr4, HR4, HBX⟩, by simp [intOf]; omega⟩
      · obtain rfl : n6 = k := by omega
        have HF : Hid (r = meetN (sgL l5).1 (sgL l3).1) := hide (by have h9 := unhide HR; rw [List.take_of_length_le (by rw [(unhide HX6).1]; exact Nat.le_refl _)] at h9; exact h9)
        have HE : Hid (MeetR a b c w (.returned (.tuple #[.int .i64 (r : Int), .int .i64 0])) wr) := hide ⟨.inr ⟨(unhide HT).1, x, y, z, l5, l3, (unhide HT).2.1, (unhide HT).2.2.1, (unhide HT).2.2.2.1, (unhide HT).2.2.2.2.1, (unhide HT).2.2.2.2.2.1, (unhide HT).2.2.2.2.2.2, (unhide HN5).1, (unhide HN5).2, (unhide HN3).1, (unhide HN3).2, by rw [← unhide HF]⟩, (unhide B6).trans ((unhide HB).mono (unhide B6).size)⟩
        go_wp2_with fail
        go_ret2
        exact unhide HE
end Go.Proofs.YtonabfpgdgnpnaaDoor
