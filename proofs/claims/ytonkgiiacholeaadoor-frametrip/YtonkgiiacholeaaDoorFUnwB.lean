/- A frame out of its bytes, or why there is none. -/
import Derived.Test.YtonkgiiacholeaaDoorFPeekB
namespace Go.Proofs.YtonkgiiacholeaaDoor
set_option linter.unusedVariables false
set_option linter.unusedSimpArgs false
open Go.ChangeShapes Go.WideShapes Go.ChangeAt Go.RowKit Go.Joins

theorem RowAt.setRow {w : World} {g : Nat} {t : TypeId} {cs : List Value} (h : RowAt w g t cs) (cs' : List Value) : RowAt (w.setRow g cs'.toArray) g t cs' := setRow_heap _ _ _ _ _ _ h
theorem Only.setRow {p : Nat → Prop} {a b : World} (h : Only p a b) (g : Nat) (cs : Array Value) (hg : p g) : Only p a (b.setRow g cs) :=
  h.trans ⟨rfl, rfl, rfl, by simp [World.setRow], fun k hk hn => setRow_other _ _ _ _ (fun e => hn (by first | exact e ▸ hg | exact e.symm ▸ hg))⟩
theorem own_off {w : World} {base : Nat} {v : Value} {n : Nat} {xs : List Value} {p : Nat → Prop} (h : w.ownsRow base 5 1 v n xs) (hp : ∀ k, p k → k < base) : Off v p := by
  intro k hk hpk
  have := (h.lt k hk).1
  have := hp k hpk
  omega
set_option maxRecDepth 100000 in
set_option maxHeartbeats 4000000 in
theorem unwrap_bad (kv : Value) (up : Bool) (a : Option Addr) (n cap : Nat) (l : List Nat) (w : World) (hv : Byt w (.slice a n cap) l) (h8 : U8 l) (hn : l.length = n) (hnb : n ≤ 1000000) (hbad : ¬ PkOk l n) :
    Calls Tryd.prog 16 #[kv, .bool up, .slice a n cap] w fun e w' => e = .returned (.tuple #[frV 0 0 0 (.slice none 0 0), .int .i64 120]) ∧ Below w.heap.size w w' := by
  have b1 : Below w.heap.size w (w.alloc (.cells #[.int .i64 0, .int .i64 0, .int .i64 0, .slice none 0 0] 24)) := (Below.refl _ _).alloc (Nat.le_refl _) _
  have hR := RowAt.new w 24 [.int .i64 0, .int .i64 0, .int .i64 0, .slice none 0 0]
  have HR := hide hR
  have HB1 := hide b1
  have HPK := hide (peek_bad a n cap l (w.alloc (.cells #[.int .i64 0, .int .i64 0, .int .i64 0, .slice none 0 0] 24)) (hv.call b1) h8 hn hnb hbad)
  rw [frV] at HPK
  clear hR b1 hv h8 hn hbad
  go_enter Tryd.func16, Tryd.ntmps16
  go_wp2_with fail
  generalize w.alloc (.cells #[.int .i64 0, .int .i64 0, .int .i64 0, .slice none 0 0] 24) = w1 at *
  refine Calls.mono (unhide HPK) ?_
  rintro e w2 ⟨rfl, b2⟩
  have b3 : Below w2.heap.size w2 (w2.alloc (.cells #[.int .i64 0, .int .i64 0, .int .i64 0, .slice none 0 0] 24)) := (Below.refl _ _).alloc (Nat.le_refl _) _
  have R2 := (unhide HR).below b2 (unhide HR).lt
  have HE2 := hide ((R2.below b3 R2.lt).arr rfl)
  have B2 := (unhide HB1).trans (b2.mono (unhide HB1).size)
  have HB7 := hide (B2.trans (b3.mono B2.size))
  clear b2 b3 R2 B2 HPK HB1 HR
  go_wp2_with (first
    | (refine wpList_store_row rfl 24 _ _ rfl w.heap.size ([.int .i64 0, .int .i64 0, .int .i64 0, .slice none 0 0] : List Value).toArray rfl rfl 24 ([.int .i64 0, .int .i64 0, .int .i64 0, .slice none 0 0] : List Value).toArray (unhide HE2) z37 rfl (one37' 0 0 0) ?_))
  refine bodyPost_ret (results_row_tmp Tryd.results16 _ _ w.heap.size 24 ([.int .i64 0, .int .i64 0, .int .i64 0, .slice none 0 0] : List Value).toArray (0, 0) _ rfl (setRow_heap _ _ _ _ _ _ (unhide HE2)) Tryd.underlying24 rfl z37) rfl ⟨rfl, ?_⟩
  exact Below.trans (unhide HB7) ⟨rfl, rfl, rfl, by simp [World.setRow], fun k hk => setRow_other _ _ _ _ (by omega)⟩

def UnG (key : List Nat) (kn O c s k : Nat) (head hid t : List Nat) (w : World) (e : Ending) (w' : World) : Prop :=
  Below w.heap.size w w' ∧ (¬ kn = 64 → e = .returned (.tuple #[frV 0 0 0 (.slice none 0 0), .int .i64 1])) ∧ (kn = 64 → ¬ t = tagL key O head hid → e = .returned (.tuple #[frV 0 0 0 (.slice none 0 0), .int .i64 121])) ∧
    (kn = 64 → t = tagL key O head hid → ∃ bv', e = .returned (.tuple #[frV c s k bv', .int .i64 0]) ∧ Byt w' bv' (tkL key O hid))
set_option maxRecDepth 100000 in
set_option maxHeartbeats 8000000 in
theorem unwrap_any (ka : Option Addr) (kn kc : Nat) (up : Bool) (a : Addr) (n cap : Nat) (key l : List Nat) (c s k : Nat) (w : World) (hT : Lay w) (hK : Byt w (.slice ka kn kc) key) (hk8 : U8 key) (hkl : key.length = kn) (hv : Byt w (.slice (some a) n cap) l) (h8 : U8 l) (hn : l.length = n) (h40 : 40 ≤ n) (hn2 : n ≤ 16360)
    (hc : Oct.numOf (l.take 8) = c) (hs : Oct.numOf ((l.drop 8).take 8) = s) (hk : Oct.numOf ((l.drop 16).take 8) = k) (c1 : 1 ≤ c) (c2 : c ≤ 1099511627776) (s2 : s ≤ 1099511627776) (k2 : k ≤ 1099511627776) (hsb : s = 0 ↔ n = 40) :
    Calls Tryd.prog 16 #[.slice ka kn kc, .bool up, .slice (some a) n cap] w fun e w' => UnG key kn (onceU s up) c s k (l.take 24) ((l.drop 24).take (n - 40)) ((l.drop 24).drop (n - 40)) w e w' := by
  obtain ⟨O, hO⟩ : ∃ x, onceU s up = x := ⟨_, rfl⟩
  obtain ⟨hid, hhid⟩ : ∃ x, (l.drop 24).take (n - 40) = x := ⟨_, rfl⟩
  obtain ⟨t, ht⟩ : ∃ x, (l.drop 24).drop (n - 40) = x := ⟨_, rfl⟩
  obtain ⟨hd, hhd⟩ : ∃ x, l.take 24 = x := ⟨_, rfl⟩
  rw [hO, hhid, ht, hhd]
  have HOE := hide hO
  have HHID := hide hhid
  have HHT := hide ht
  have HHD := hide hhd
  clear hO hhid ht hhd
  have hcap : n ≤ cap := by
    rcases hv with ⟨e, _⟩ | ⟨a', c', e, h1, _⟩
    · cases e
    · injection e with e1 e2 e3; omega
  have b1 : Below w.heap.size w (w.alloc (.cells #[.int .i64 0, .int .i64 0, .int .i64 0, .slice none 0 0] 24)) := (Below.refl _ _).alloc (Nat.le_refl _) _
  have hR := RowAt.new w 24 [.int .i64 0, .int .i64 0, .int .i64 0, .slice none 0 0]
  have HR := hide hR
  have HB1 := hide b1
  have HPK := hide (peek_ok a n cap l c s k (w.alloc (.cells #[.int .i64 0, .int .i64 0, .int .i64 0, .slice none 0 0] 24)) (hv.call b1) h8 hn h40 hn2 hc hs hk c1 c2 s2 k2 hsb)
  rw [frV] at HPK
  have HT := hide hT
  have HK := hide hK
  have HK8 := hide hk8
  have HKL := hide hkl
  have HV := hide hv
  have H8 := hide h8
  have HN := hide hn
  have HON := hide (fun w => fonce_any s up w s2)
  rw [show (2 * s + (if up = true then 0 else 1)) = onceU s up from rfl, unhide HOE] at HON
  have HOL : Hid (O < 18446744073709551616) := hide (unhide HOE ▸ onceU_lt s up s2)
  have HSB := hide hsb
  have hci : (24 : Int) ≤ (cap : Int) := by omega
  have hni : (24 : Int) ≤ (n : Int) := by omega
  have hnn : 24 ≤ n := by omega
  have hcn : ¬ cap = 24 := by omega
  have hc24 : 24 ≤ cap := by omega
  clear hR b1 hT hK hk8 hkl hv h8 hn hc hs hk c1 c2 s2 k2 hsb
  go_enter Tryd.func16, Tryd.ntmps16
  go_wp2_with fail
  generalize w.alloc (.cells #[.int .i64 0, .int .i64 0, .int .i64 0, .slice none 0 0] 24) = w1 at *
  refine Calls.mono (unhide HPK) ?_
  rintro e w2 ⟨rfl, b2⟩
  have HB2 := hide ((unhide HB1).trans (b2.mono (unhide HB1).size))
  have HR2 := hide ((unhide HR).below b2 (unhide HR).lt)
  clear b2 HPK HB1 HR
  have b3 : Below w2.heap.size w2 (w2.alloc (.cells #[.int .i64 (c : Int), .int .i64 (s : Int), .int .i64 (k : Int), .slice none 0 0] 24)) := (Below.refl _ _).alloc (Nat.le_refl _) _
  have hF := RowAt.new w2 24 [.int .i64 (c : Int), .int .i64 (s : Int), .int .i64 (k : Int), .slice none 0 0]
  have B3 := (unhide HB2).trans (b3.mono (unhide HB2).size)
  have R3 := (unhide HR2).below b3 (unhide HR2).lt
  have hcw : (w2.alloc (.cells #[.int .i64 (c : Int), .int .i64 (s : Int), .int .i64 (k : Int), .slice none 0 0] 24)).cell? ⟨w2.heap.size, 1, none⟩ = some (.int .i64 (s : Int)) := hF.cell 1
  have HGF : Hid (w.heap.size < w2.heap.size) := hide (unhide HR2).lt
  have D3 := B3.drew
  have hsl : (l.drop 24).length = n - 24 := by rw [List.length_drop, unhide HN]
  have HFr := hide hF
  have HB3 := hide D3
  have HR3 := hide (R3.below ((Below.refl _ (w2.alloc (.cells #[.int .i64 (c : Int), .int .i64 (s : Int), .int .i64 (k : Int), .slice none 0 0] 24))).drew) R3.lt)
  obtain ⟨gf, hgf⟩ : ∃ x, w2.heap.size = x := ⟨_, rfl⟩
  by_cases hk64 : kn = 64
  · subst hk64
    have hop := open_any (.slice ka 64 kc) (.slice (some a) 24 cap) (.slice (some (a.add 24)) (n - 24) (cap - 24)) key (l.take 24) (l.drop 24) O (w2.alloc (.cells #[.int .i64 (c : Int), .int .i64 (s : Int), .int .i64 (k : Int), .slice none 0 0] 24)).drew ((unhide HT).below D3) ((unhide HK).call D3) (((unhide HV).call D3).take 24 (by omega)) (((unhide HV).call D3).drop 24 (by omega)) (unhide HK8) (fun y hy => unhide H8 y (List.mem_of_mem_take hy)) (fun y hy => unhide H8 y (List.mem_of_mem_drop hy)) (unhide HKL) (by rw [List.length_take, unhide HN]; omega) (by rw [hsl]; omega) (by rw [hsl]; omega) (unhide HOL)
    rw [hsl, show n - 24 - 16 = n - 40 by omega, unhide HHID, unhide HHT, unhide HHD] at hop
    have HOP := hide hop
    have HHL : Hid (hid.length = n - 40) := hide (by rw [← unhide HHID, List.length_take, hsl]; omega)
    clear b3 B3 R3 D3 hsl hop HR2 HB2 hF
    rw [hgf] at HFr HGF hcw
    by_cases hq : t = tagL key O hd hid
    · have HQ := hide hq
      clear hq
      by_cases h0 : s = 0
      · have h40' : n = 40 := (unhide HSB).1 h0
        have hhn : hid = [] := List.eq_nil_of_length_eq_zero (by rw [unhide HHL]; omega)
        have HTN : Hid (tkL key O hid = []) := hide (by rw [hhn]; exact tk_nil _ _)
        have hs0 : ¬ (0 : Int) < (s : Int) := by omega
        clear h0 h40' hhn
        go_wp2_with fail
        try rw [hgf]
        generalize w2.alloc (.cells #[.int .i64 (c : Int), .int .i64 (s : Int), .int .i64 (k : Int), .slice none 0 0] 24) = w3 at *
        go_region_held (fun w' => w'.cell? ⟨gf, 1, none⟩ = some (.int .i64 (s : Int)))
          (first | exact hcw | exact k4)
          (first
            | (go_at_call 45; refine Calls.mono (unhide HON _) ?_; rintro e wx ⟨rfl, rfl⟩)
            | (go_at_call 46; refine Calls.mono (unhide HOP) ?_; rintro e w4 ⟨b4, q4, q5⟩; obtain ⟨v4, rfl, o4⟩ := q4 (unhide HQ); have k4 := cell_keep b4 (lt_of_cell hcw) hcw))
        all_goals (
          have HB5 := hide ((unhide HB3).trans (b4.mono (unhide HB3).size))
          have F4 : RowAt w4 gf 24 [.int .i64 (c : Int), .int .i64 (s : Int), .int .i64 (k : Int), .slice none 0 0] := (unhide HFr).drew.below b4 (unhide HFr).drew.lt
          have R4 : RowAt w4 w.heap.size 24 [.int .i64 0, .int .i64 0, .int .i64 0, .slice none 0 0] := (unhide HR3).below b4 (unhide HR3).lt
          have HE2 := hide (R4.arr rfl)
          obtain ⟨E, hE⟩ : ∃ E : Array Value, ([.int .i64 (c : Int), .int .i64 (s : Int), .int .i64 (k : Int), .slice none 0 0] : List Value).toArray = E := ⟨_, rfl⟩
          have HE1 := hide ((F4).arr hE)
          have HES : Hid (E.size = 4) := hide (by rw [← hE]; rfl)
          have HEO : Hid (E.all (·.oneCell') = true) := hide (by rw [← hE]; simp only [List.all_toArray, List.all_cons, List.all_nil, Bool.and_true]; rfl)
          have HEE := hide hE
          clear b4 F4 R4 q4 q5 o4 hE HOP HON HB3 HR3 HFr hcw
          go_wp2_with (first
            | (refine wpList_load_row rfl 24 _ rfl gf (by kernel_rfl) 24 E (0, 0) _ (unhide HE1) Tryd.underlying24 rfl (by rw [z37, unhide HES]) ?_)
            | (refine wpList_store_row rfl 24 _ _ rfl w.heap.size E (by kernel_rfl) (by kernel_rfl) 24 ([.int .i64 0, .int .i64 0, .int .i64 0, .slice none 0 0] : List Value).toArray (unhide HE2) (by rw [z37, unhide HES]) (by rw [unhide HES]; rfl) (unhide HEO) ?_))
          refine bodyPost_ret (results_row_tmp Tryd.results16 _ _ w.heap.size 24 E (0, 0) _ rfl (setRow_heap _ _ _ _ _ _ (unhide HE2)) Tryd.underlying24 rfl (by rw [z37, unhide HES])) rfl ⟨?_, fun h => absurd rfl h, fun _ h => absurd (unhide HQ) h, fun _ _ => ?_⟩
          · exact Below.trans (unhide HB5) ⟨rfl, rfl, rfl, by simp [World.setRow], fun k hk => setRow_other _ _ _ _ (by omega)⟩
          · refine ⟨.slice none 0 0, by rw [← unhide HEE]; rfl, ?_⟩
            rw [unhide HTN]
            exact .inl ⟨rfl, rfl⟩)
      · have hs1 : (0 : Int) < (s : Int) := by omega
        clear h0
        go_wp2_with fail
        try rw [hgf]
        generalize w2.alloc (.cells #[.int .i64 (c : Int), .int .i64 (s : Int), .int .i64 (k : Int), .slice none 0 0] 24) = w3 at *
        go_region_held (fun w' => w'.cell? ⟨gf, 1, none⟩ = some (.int .i64 (s : Int)))
          (first | exact hcw | exact k4)
          (first
            | (go_at_call 45; refine Calls.mono (unhide HON _) ?_; rintro e wx ⟨rfl, rfl⟩)
            | (go_at_call 46; refine Calls.mono (unhide HOP) ?_; rintro e w4 ⟨b4, q4, q5⟩; obtain ⟨v4, rfl, o4⟩ := q4 (unhide HQ); have k4 := cell_keep b4 (lt_of_cell hcw) hcw))
        all_goals (
          have Y4 : Byt w4 v4 (tkL key O hid) := Byt.of_own (own_cast o4 (by rw [tkL_len]) rfl)
          obtain ⟨ya, yc, hye⟩ := byt_shape Y4
          obtain ⟨yn, hyn⟩ : ∃ x, (tkL key O hid).length = x := ⟨_, rfl⟩
          rw [hyn] at hye
          subst hye
          have HOF := hide (own_off (p := fun k => k = gf ∨ k = w.heap.size) o4 (fun k hk => by
            have h1 := (unhide HFr).drew.lt
            have h2 := unhide HGF
            rcases hk with rfl | rfl <;> omega))
          have HY4 := hide Y4
          have F4 : RowAt w4 gf 24 [.int .i64 (c : Int), .int .i64 (s : Int), .int .i64 (k : Int), .slice none 0 0] := (unhide HFr).drew.below b4 (unhide HFr).drew.lt
          have R4 : RowAt w4 w.heap.size 24 [.int .i64 0, .int .i64 0, .int .i64 0, .slice none 0 0] := (unhide HR3).below b4 (unhide HR3).lt
          have z3 := F4.frozen 3
          have c3 := F4.cell 3
          have F5 : RowAt (w4.setCell ⟨gf, 3, none⟩ (.slice ya yn yc)) gf 24 [.int .i64 (c : Int), .int .i64 (s : Int), .int .i64 (k : Int), .slice ya yn yc] := F4.set 3 _
          have R5 := R4.only (p := (· = gf)) ((Only.refl _ _).set gf 3 (.slice ya yn yc) rfl) (by have := unhide HGF; omega)
          have HE2 := hide (R5.arr rfl)
          have B5 := (unhide HB3).trans (b4.mono (unhide HB3).size)
          have HB5 : Hid (Below w.heap.size w (w4.setCell ⟨gf, 3, none⟩ (.slice ya yn yc))) := hide (B5.setCell (Nat.le_of_lt (unhide HGF)) _)
          obtain ⟨E, hE⟩ : ∃ E : Array Value, ([.int .i64 (c : Int), .int .i64 (s : Int), .int .i64 (k : Int), .slice ya yn yc] : List Value).toArray = E := ⟨_, rfl⟩
          have HE1 := hide (F5.arr hE)
          have HES : Hid (E.size = 4) := hide (by rw [← hE]; rfl)
          have HEO : Hid (E.all (·.oneCell') = true) := hide (by rw [← hE]; simp only [List.all_toArray, List.all_cons, List.all_nil, Bool.and_true]; rfl)
          have HEE := hide hE
          clear b4 F4 R4 F5 R5 B5 q4 q5 o4 hE hyn Y4 HOP HON HB3 HR3 HFr hcw
          go_wp2_with (first
            | (refine wpList_load_row rfl 24 _ rfl gf (by kernel_rfl) 24 E (0, 0) _ (unhide HE1) Tryd.underlying24 rfl (by rw [z37, unhide HES]) ?_)
            | (refine wpList_store_row rfl 24 _ _ rfl w.heap.size E (by kernel_rfl) (by kernel_rfl) 24 ([.int .i64 0, .int .i64 0, .int .i64 0, .slice none 0 0] : List Value).toArray (unhide HE2) (by rw [z37, unhide HES]) (by rw [unhide HES]; rfl) (unhide HEO) ?_))
          refine bodyPost_ret (results_row_tmp Tryd.results16 _ _ w.heap.size 24 E (0, 0) _ rfl (setRow_heap _ _ _ _ _ _ (unhide HE2)) Tryd.underlying24 rfl (by rw [z37, unhide HES])) rfl ⟨?_, fun h => absurd rfl h, fun _ h => absurd (unhide HQ) h, fun _ _ => ?_⟩
          · exact Below.trans (unhide HB5) ⟨rfl, rfl, rfl, by simp [World.setRow], fun k hk => setRow_other _ _ _ _ (by omega)⟩
          · refine ⟨.slice ya yn yc, by rw [← unhide HEE]; rfl, ?_⟩
            exact Only.byt (((Only.refl (fun k => k = gf ∨ k = w.heap.size) w4).set gf 3 _ (.inl rfl)).setRow w.heap.size E (.inr rfl)) (unhide HY4) (unhide HOF))
    · have HQ := hide hq
      clear hq
      go_wp2_with fail
      try rw [hgf]
      generalize w2.alloc (.cells #[.int .i64 (c : Int), .int .i64 (s : Int), .int .i64 (k : Int), .slice none 0 0] 24) = w3 at *
      go_region_held (fun w' => w'.cell? ⟨gf, 1, none⟩ = some (.int .i64 (s : Int)))
        (first | exact hcw | exact k4)
        (first
          | (go_at_call 45; refine Calls.mono (unhide HON _) ?_; rintro e wx ⟨rfl, rfl⟩)
          | (go_at_call 46; refine Calls.mono (unhide HOP) ?_; rintro e w4 ⟨b4, q4, q5⟩; obtain rfl := q5 (unhide HQ); have k4 := cell_keep b4 (lt_of_cell hcw) hcw))
      all_goals (
        have HB5 := hide ((unhide HB3).trans (b4.mono (unhide HB3).size))
        have F4 : RowAt w4 gf 24 [.int .i64 (c : Int), .int .i64 (s : Int), .int .i64 (k : Int), .slice none 0 0] := (unhide HFr).drew.below b4 (unhide HFr).drew.lt
        have R4 : RowAt w4 w.heap.size 24 [.int .i64 0, .int .i64 0, .int .i64 0, .slice none 0 0] := (unhide HR3).below b4 (unhide HR3).lt
        have HE2 := hide (R4.arr rfl)
        clear b4 F4 R4 q4 q5 HOP HON HB3 HR3 HFr hcw
        go_wp2_with (first
          | (refine wpList_store_row rfl 24 _ _ rfl w.heap.size ([.int .i64 0, .int .i64 0, .int .i64 0, .slice none 0 0] : List Value).toArray rfl rfl 24 ([.int .i64 0, .int .i64 0, .int .i64 0, .slice none 0 0] : List Value).toArray (unhide HE2) z37 rfl (one37' 0 0 0) ?_))
        refine bodyPost_ret (results_row_tmp Tryd.results16 _ _ w.heap.size 24 ([.int .i64 0, .int .i64 0, .int .i64 0, .slice none 0 0] : List Value).toArray (0, 0) _ rfl (setRow_heap _ _ _ _ _ _ (unhide HE2)) Tryd.underlying24 rfl z37) rfl ⟨?_, fun h => absurd rfl h, fun _ _ => rfl, fun _ h => absurd h (unhide HQ)⟩
        exact Below.trans (unhide HB5) ⟨rfl, rfl, rfl, by simp [World.setRow], fun k hk => setRow_other _ _ _ _ (by omega)⟩)
  · have HON2 := hide (fun (w : World) => open_not ka kn kc (.slice (some a) 24 cap) (some (a.add 24)) (n - 24) (cap - 24) O w hk64)
    have HNK := hide hk64
    clear b3 B3 R3 D3 hsl HR2 HB2 hF hk64
    rw [hgf] at HFr HGF hcw
    go_wp2_with fail
    try rw [hgf]
    generalize w2.alloc (.cells #[.int .i64 (c : Int), .int .i64 (s : Int), .int .i64 (k : Int), .slice none 0 0] 24) = w3 at *
    go_region_held (fun w' => w'.cell? ⟨gf, 1, none⟩ = some (.int .i64 (s : Int)))
      (exact hcw)
      (first
        | (go_at_call 45; refine Calls.mono (unhide HON _) ?_; rintro e wx ⟨rfl, rfl⟩)
        | (go_at_call 46; refine Calls.mono (unhide HON2 _) ?_; rintro e wx ⟨rfl, rfl⟩))
    all_goals (
      have HE2 := hide ((unhide HR3).arr rfl)
      clear HON HON2 HR3 HFr
      go_wp2_with (first
        | (refine wpList_store_row rfl 24 _ _ rfl w.heap.size ([.int .i64 0, .int .i64 0, .int .i64 0, .slice none 0 0] : List Value).toArray rfl rfl 24 ([.int .i64 0, .int .i64 0, .int .i64 0, .slice none 0 0] : List Value).toArray (unhide HE2) z37 rfl (one37' 0 0 0) ?_))
      refine bodyPost_ret (results_row_tmp Tryd.results16 _ _ w.heap.size 24 ([.int .i64 0, .int .i64 0, .int .i64 0, .slice none 0 0] : List Value).toArray (0, 0) _ rfl (setRow_heap _ _ _ _ _ _ (unhide HE2)) Tryd.underlying24 rfl z37) rfl ⟨?_, fun _ => rfl, fun h => absurd h (unhide HNK), fun h => absurd h (unhide HNK)⟩
      exact Below.trans (unhide HB3) ⟨rfl, rfl, rfl, by simp [World.setRow], fun k hk => setRow_other _ _ _ _ (by omega)⟩)
end Go.Proofs.YtonkgiiacholeaaDoor
