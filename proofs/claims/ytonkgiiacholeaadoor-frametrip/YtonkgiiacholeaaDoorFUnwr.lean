/- A frame without a body, out of its bytes. -/
import Derived.Test.YtonkgiiacholeaaDoorFPeek
import Derived.Test.YtonkgiiacholeaaDoorFWrap
import Derived.Deep.RegionHeld3
namespace Go.Proofs.YtonkgiiacholeaaDoor
set_option linter.unusedVariables false
set_option linter.unusedSimpArgs false
open Go.ChangeShapes Go.WideShapes Go.ChangeAt Go.RowKit Go.Joins

def UnR (key : List Nat) (O : Nat) (c k : Nat) (l : List Nat) (w : World) (e : Ending) (w' : World) : Prop :=
  Below w.heap.size w w' ∧ (l.drop 24 = tagL key O (l.take 24) [] → e = .returned (.tuple #[frV c 0 k (.slice none 0 0), .int .i64 0])) ∧ (¬ l.drop 24 = tagL key O (l.take 24) [] → e = .returned (.tuple #[frV 0 0 0 (.slice none 0 0), .int .i64 121]))
set_option maxRecDepth 100000 in
set_option maxHeartbeats 4000000 in
theorem unwrap0 (ka : Option Addr) (kc : Nat) (up : Bool) (a : Addr) (cap : Nat) (key l : List Nat) (c k : Nat) (w : World) (hT : Lay w) (hK : Byt w (.slice ka 64 kc) key) (hk8 : U8 key) (hkl : key.length = 64) (hv : Byt w (.slice (some a) 40 cap) l) (h8 : U8 l) (hn : l.length = 40)
    (hc : Oct.numOf (l.take 8) = c) (hs : Oct.numOf ((l.drop 8).take 8) = 0) (hk : Oct.numOf ((l.drop 16).take 8) = k) (c1 : 1 ≤ c) (c2 : c ≤ 1099511627776) (k2 : k ≤ 1099511627776) :
    Calls Tryd.prog 16 #[.slice ka 64 kc, .bool up, .slice (some a) 40 cap] w fun e w' => UnR key (onceU 0 up) c k l w e w' := by
  obtain ⟨O, hO⟩ : ∃ x, onceU 0 up = x := ⟨_, rfl⟩
  rw [hO]
  have HOE := hide hO
  clear hO
  have hcap : 40 ≤ cap := by
    rcases hv with ⟨e, _⟩ | ⟨a', c', e, h1, _⟩
    · cases e
    · injection e with e1 e2 e3; omega
  have b1 : Below w.heap.size w (w.alloc (.cells #[.int .i64 0, .int .i64 0, .int .i64 0, .slice none 0 0] 24)) := (Below.refl _ _).alloc (Nat.le_refl _) _
  have hR := RowAt.new w 24 [.int .i64 0, .int .i64 0, .int .i64 0, .slice none 0 0]
  have HR := hide hR
  have HB1 := hide b1
  have HPK := hide (peek_ok a 40 cap l c 0 k (w.alloc (.cells #[.int .i64 0, .int .i64 0, .int .i64 0, .slice none 0 0] 24)) (hv.call b1) h8 hn (by omega) (by omega) hc hs hk c1 c2 (by omega) k2 (by simp))
  have HT := hide hT
  have HK := hide hK
  have HK8 := hide hk8
  have HKL := hide hkl
  have HV := hide hv
  have H8 := hide h8
  have HN := hide hn
  have hci : (24 : Int) ≤ (cap : Int) := by omega
  have hcn : ¬ cap = 24 := by omega
  rw [frV] at HPK
  clear hR b1 hT hK hk8 hkl hv h8 hn hc hs hk c1 c2 k2
  go_enter Tryd.func16, Tryd.ntmps16
  go_wp2_with fail
  generalize w.alloc (.cells #[.int .i64 0, .int .i64 0, .int .i64 0, .slice none 0 0] 24) = w1 at *
  refine Calls.mono (unhide HPK) ?_
  rintro e w2 ⟨rfl, b2⟩
  have HB2 := hide ((unhide HB1).trans (b2.mono (unhide HB1).size))
  have HR2 := hide ((unhide HR).below b2 (unhide HR).lt)
  clear b2 HPK HB1 HR
  have b3 : Below w2.heap.size w2 (w2.alloc (.cells #[.int .i64 (c : Int), .int .i64 0, .int .i64 (k : Int), .slice none 0 0] 24)) := (Below.refl _ _).alloc (Nat.le_refl _) _
  have hF := RowAt.new w2 24 [.int .i64 (c : Int), .int .i64 0, .int .i64 (k : Int), .slice none 0 0]
  have B3 := (unhide HB2).trans (b3.mono (unhide HB2).size)
  have R3 := (unhide HR2).below b3 (unhide HR2).lt
  have hcw : (w2.alloc (.cells #[.int .i64 (c : Int), .int .i64 0, .int .i64 (k : Int), .slice none 0 0] 24)).cell? ⟨w2.heap.size, 1, none⟩ = some (.int .i64 0) := hF.cell 1
  have HGF : Hid (w.heap.size < w2.heap.size) := hide (unhide HR2).lt
  have D3 := B3.drew
  have hsl : (l.drop 24).length = 16 := by rw [List.length_drop, unhide HN]
  have hop := open_any (.slice ka 64 kc) (.slice (some a) 24 cap) (.slice (some (a.add 24)) 16 (cap - 24)) key (l.take 24) (l.drop 24) (onceU 0 up) (w2.alloc (.cells #[.int .i64 (c : Int), .int .i64 0, .int .i64 (k : Int), .slice none 0 0] 24)).drew ((unhide HT).below D3) ((unhide HK).call D3) (((unhide HV).call D3).take 24 (by omega)) (((unhide HV).call D3).drop 24 (by omega)) (unhide HK8) (fun y hy => unhide H8 y (List.mem_of_mem_take hy)) (fun y hy => unhide H8 y (List.mem_of_mem_drop hy)) (unhide HKL) (by rw [List.length_take, unhide HN]; omega) (by rw [hsl]; omega) (by rw [hsl]; omega) (onceU_lt 0 up (by omega))
  rw [hsl, show 16 - 16 = 0 from rfl, List.take_zero, List.drop_zero] at hop
  have HOP := hide hop
  have HON := hide (fun w => fonce_any 0 up w (by omega))
  rw [show (2 * 0 + (if up = true then 0 else 1)) = onceU 0 up from rfl] at HON
  have HFr := hide hF
  have HB3 := hide D3
  have HR3 := hide (R3.below ((Below.refl _ (w2.alloc (.cells #[.int .i64 (c : Int), .int .i64 0, .int .i64 (k : Int), .slice none 0 0] 24))).drew) R3.lt)
  clear b3 B3 R3 D3 hsl hop HR2 HB2 hF
  rw [unhide HOE] at HOP HON
  obtain ⟨gf, hgf⟩ : ∃ x, w2.heap.size = x := ⟨_, rfl⟩
  rw [hgf] at HFr HGF hcw
  by_cases hq : l.drop 24 = tagL key O (l.take 24) []
  · have HQ := hide hq
    clear hq
    go_wp2_with fail
    try rw [hgf]
    generalize w2.alloc (.cells #[.int .i64 (c : Int), .int .i64 0, .int .i64 (k : Int), .slice none 0 0] 24) = w3 at *
    go_region_held (fun w' => w'.cell? ⟨gf, 1, none⟩ = some (.int .i64 0))
      (first | exact hcw | exact k4)
      (first
        | (go_at_call 45; refine Calls.mono (unhide HON _) ?_; rintro e wx ⟨rfl, rfl⟩)
        | (go_at_call 46; refine Calls.mono (unhide HOP) ?_; rintro e w4 ⟨b4, q4, q5⟩; obtain ⟨v4, rfl, o4⟩ := q4 (unhide HQ); have k4 := cell_keep b4 (lt_of_cell hcw) hcw))
    all_goals (
      have HB5 := hide ((unhide HB3).trans (b4.mono (unhide HB3).size))
      have F4 : RowAt w4 gf 24 [.int .i64 (c : Int), .int .i64 0, .int .i64 (k : Int), .slice none 0 0] := (unhide HFr).drew.below b4 (unhide HFr).drew.lt
      have R4 : RowAt w4 w.heap.size 24 [.int .i64 0, .int .i64 0, .int .i64 0, .slice none 0 0] := (unhide HR3).below b4 (unhide HR3).lt
      obtain ⟨E, hE⟩ : ∃ E : Array Value, ([.int .i64 (c : Int), .int .i64 0, .int .i64 (k : Int), .slice none 0 0] : List Value).toArray = E := ⟨_, rfl⟩
      obtain ⟨Z, hZ⟩ : ∃ E : Array Value, ([.int .i64 0, .int .i64 0, .int .i64 0, .slice none 0 0] : List Value).toArray = E := ⟨_, rfl⟩
      have HE1 := hide (F4.arr hE)
      have HE2 := hide (R4.arr hZ)
      have HES : Hid (E.size = 4) := hide (by rw [← hE]; rfl)
      have HZS : Hid (Z.size = 4) := hide (by rw [← hZ]; rfl)
      have HEO : Hid (E.all (·.oneCell') = true) := hide (by rw [← hE]; simp only [List.all_toArray, List.all_cons, List.all_nil, Bool.and_true]; rfl)
      have HZO : Hid (Z.all (·.oneCell') = true) := hide (by rw [← hZ]; simp only [List.all_toArray, List.all_cons, List.all_nil, Bool.and_true]; rfl)
      have HEE := hide hE
      have HZZ := hide hZ
      clear b4 F4 R4 q4 q5 o4 hE hZ HOP HON HB3 HR3 HFr hcw
      go_wp2_with (first
        | (refine wpList_load_row rfl 24 _ rfl gf (by kernel_rfl) 24 E (0, 0) _ (unhide HE1) Tryd.underlying24 rfl (by rw [z37, unhide HES]) ?_)
        | (refine wpList_store_row rfl 24 _ _ rfl w.heap.size E (by kernel_rfl) (by kernel_rfl) 24 Z (unhide HE2) (by rw [z37, unhide HES]) (by rw [unhide HES, unhide HZS]) (unhide HEO) ?_))
      refine bodyPost_ret (results_row_tmp Tryd.results16 _ _ w.heap.size 24 E (0, 0) _ rfl (setRow_heap _ _ _ _ _ _ (unhide HE2)) Tryd.underlying24 rfl (by rw [z37, unhide HES])) rfl ⟨?_, fun _ => ?_, fun h => absurd (unhide HQ) h⟩
      · exact Below.trans (unhide HB5) ⟨rfl, rfl, rfl, by simp [World.setRow], fun k hk => setRow_other _ _ _ _ (by omega)⟩
      · rw [← unhide HEE]
        rfl)
  · have HQ := hide hq
    clear hq
    go_wp2_with fail
    try rw [hgf]
    generalize w2.alloc (.cells #[.int .i64 (c : Int), .int .i64 0, .int .i64 (k : Int), .slice none 0 0] 24) = w3 at *
    go_region_held (fun w' => w'.cell? ⟨gf, 1, none⟩ = some (.int .i64 0))
      (first | exact hcw | exact k4)
      (first
        | (go_at_call 45; refine Calls.mono (unhide HON _) ?_; rintro e wx ⟨rfl, rfl⟩)
        | (go_at_call 46; refine Calls.mono (unhide HOP) ?_; rintro e w4 ⟨b4, q4, q5⟩; obtain rfl := q5 (unhide HQ); have k4 := cell_keep b4 (lt_of_cell hcw) hcw))
    all_goals (
      have HB5 := hide ((unhide HB3).trans (b4.mono (unhide HB3).size))
      have F4 : RowAt w4 gf 24 [.int .i64 (c : Int), .int .i64 0, .int .i64 (k : Int), .slice none 0 0] := (unhide HFr).drew.below b4 (unhide HFr).drew.lt
      have R4 : RowAt w4 w.heap.size 24 [.int .i64 0, .int .i64 0, .int .i64 0, .slice none 0 0] := (unhide HR3).below b4 (unhide HR3).lt
      obtain ⟨E, hE⟩ : ∃ E : Array Value, ([.int .i64 (c : Int), .int .i64 0, .int .i64 (k : Int), .slice none 0 0] : List Value).toArray = E := ⟨_, rfl⟩
      obtain ⟨Z, hZ⟩ : ∃ E : Array Value, ([.int .i64 0, .int .i64 0, .int .i64 0, .slice none 0 0] : List Value).toArray = E := ⟨_, rfl⟩
      have HE1 := hide (F4.arr hE)
      have HE2 := hide (R4.arr hZ)
      have HES : Hid (E.size = 4) := hide (by rw [← hE]; rfl)
      have HZS : Hid (Z.size = 4) := hide (by rw [← hZ]; rfl)
      have HEO : Hid (E.all (·.oneCell') = true) := hide (by rw [← hE]; simp only [List.all_toArray, List.all_cons, List.all_nil, Bool.and_true]; rfl)
      have HZO : Hid (Z.all (·.oneCell') = true) := hide (by rw [← hZ]; simp only [List.all_toArray, List.all_cons, List.all_nil, Bool.and_true]; rfl)
      have HEE := hide hE
      have HZZ := hide hZ
      clear b4 F4 R4 q4 q5 hE HOP HON HB3 HR3 HFr hcw HZZ
      subst hZ
      go_wp2_with (first
        | (refine wpList_store_row rfl 24 _ _ rfl w.heap.size ([.int .i64 0, .int .i64 0, .int .i64 0, .slice none 0 0] : List Value).toArray rfl rfl 24 ([.int .i64 0, .int .i64 0, .int .i64 0, .slice none 0 0] : List Value).toArray (unhide HE2) (by rw [z37, unhide HZS]) (by rw [unhide HZS]) (unhide HZO) ?_))
      refine bodyPost_ret (results_row_tmp Tryd.results16 _ _ w.heap.size 24 ([.int .i64 0, .int .i64 0, .int .i64 0, .slice none 0 0] : List Value).toArray (0, 0) _ rfl (setRow_heap _ _ _ _ _ _ (unhide HE2)) Tryd.underlying24 rfl (by rw [z37, unhide HZS])) rfl ⟨?_, fun h => absurd h (unhide HQ), fun _ => ?_⟩
      · exact Below.trans (unhide HB5) ⟨rfl, rfl, rfl, by simp [World.setRow], fun k hk => setRow_other _ _ _ _ (by omega)⟩
      · rfl)
end Go.Proofs.YtonkgiiacholeaaDoor
