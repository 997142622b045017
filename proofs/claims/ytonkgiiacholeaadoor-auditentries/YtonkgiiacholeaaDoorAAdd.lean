/- A log: made, asked for its length, and added to. -/
import Derived.Test.YtonkgiiacholeaaDoorAClimb
import Derived.Test.YtonkgiiacholeaaDoorConcat
import Derived.Test.YtonkgiiacholeaaDoorARh
import Derived.Test.YtonkgiiacholeaaDoorLists
namespace Go.Proofs.YtonkgiiacholeaaDoor
set_option linter.unusedVariables false
set_option linter.unusedSimpArgs false
open Go.ChangeShapes Go.WideShapes Go.ChangeAt Go.RowKit Go.Joins

def avV (g : Nat) (ev uv : Value) : Nat → Value
  | 3 | 10 => .pointer (some ⟨g, 1, none⟩)
  | 4 => ev
  | 5 => uv
  | _ => .pointer (some ⟨g, 0, none⟩)
def avP (k : Nat) : Prop := k < 11 ∧ k ≠ 6 ∧ k ≠ 7 ∧ k ≠ 8
def A1 (w : World) (l : List Nat) (w' : World) (v : Value) : Prop := Below w.heap.size w w' ∧ w'.ownsRow w.heap.size 5 1 v l.length (bv l)
def A2 (w : World) (l : List Nat) (w' : World) (v v2 : Value) : Prop := ∃ w1, A1 w l w1 v ∧ w' = w1.alloc (.cells #[v] 22) ∧ v2 = .slice (some ⟨w1.heap.size, 0, none⟩) 1 1
def A3 (w : World) (l : List Nat) (ev : Value) (en : Nat) (xs : List Value) (w' : World) (v : Value) : Prop := ∃ cv b c, v = .slice (some ⟨b, 0, none⟩) (en + 1) c ∧ w'.ownsRow 0 22 1 v (en + 1) (xs ++ [cv]) ∧ Only (fun k => ev.ownBlock = some k) w w' ∧ (ev.ownBlock = some b ∨ w.heap.size ≤ b) ∧ Byt w' cv l ∧ (l ≠ [] → ∀ k, cv.ownBlock = some k → w.heap.size ≤ k ∧ b ≠ k)
def A4 (w : World) (l : List Nat) (ev : Value) (en : Nat) (xs : List Value) (g : Nat) (w' : World) : Prop := ∃ w3 v3, A3 w l ev en xs w3 v3 ∧ w' = w3.setCell ⟨g, 1, none⟩ v3
theorem info22' : (Tryd.prog.info? 22).map (fun i => (i.zero, i.size, i.bytes)) = some (some (.slice none 0 0), 1, 24) := by kernel_rfl
def LogAt (w : World) (τ : Nat → Int) (g : Nat) (E : List (List Nat)) : Prop := ∃ ev hv P Q, Lg w τ g ev hv P Q ∧ P.map (·.2) = E ∧ Q.map (·.2) = heightsL E
theorem LogAt.only {w w' : World} {τ : Nat → Int} {g : Nat} {E : List (List Nat)} (h : LogAt w τ g E) (ho : Only (fun k => τ k = -1) w w') : LogAt w' τ g E := by
  obtain ⟨ev, hv, P, Q, h1, h2, h3⟩ := h
  exact ⟨ev, hv, P, Q, h1.only ho, h2, h3⟩
theorem LogAt.call {w w' : World} {τ : Nat → Int} {g : Nat} {E : List (List Nat)} (h : LogAt w τ g E) (hb : Below w.heap.size w w') : LogAt w' τ g E := h.only (Only.of_below hb)
theorem LogAt.retag {w : World} {τ τ' : Nat → Int} {g : Nat} {E : List (List Nat)} (h : LogAt w τ g E) (ht : ∀ k, k < w.heap.size → τ' k = τ k) : LogAt w τ' g E := by
  obtain ⟨ev, hv, P, Q, h1, h2, h3⟩ := h
  exact ⟨ev, hv, P, Q, h1.retag ht, h2, h3⟩
theorem LogAt.row {w : World} {τ : Nat → Int} {g : Nat} {E : List (List Nat)} (h : LogAt w τ g E) : ∃ ev hv, RowAt w g 69 [.bool true, ev, hv] := by
  obtain ⟨ev, hv, P, Q, h1, h2, h3⟩ := h
  exact ⟨ev, hv, h1.row⟩
set_option maxRecDepth 100000 in
set_option maxHeartbeats 8000000 in
theorem lmade_any (g : Nat) (b : Bool) (ev hv : Value) (w : World) (hr : RowAt w g 69 [.bool b, ev, hv]) : Calls Tryd.prog 54 #[.pointer (some ⟨g, 0, none⟩)] w fun e w' => e = .returned (.bool b) ∧ w = w' := by
  have c0 : w.cell? ⟨g, 0, none⟩ = some (.bool b) := hr.cell 0
  clear hr
  go_enter Tryd.func54, Tryd.ntmps54
  go_wp2_with fail
  go_ret
  exact ⟨rfl, rfl⟩
set_option maxRecDepth 100000 in
set_option maxHeartbeats 8000000 in
theorem lmade_nil (w : World) : Calls Tryd.prog 54 #[.pointer none] w fun e w' => e = .returned (.bool false) ∧ w = w' := by
  go_enter Tryd.func54, Tryd.ntmps54
  go_wp2_with fail
  go_ret
  exact ⟨rfl, rfl⟩
set_option maxRecDepth 100000 in
set_option maxHeartbeats 8000000 in
theorem new_log (w : World) : Calls Tryd.prog 53 #[] w fun e w' => e = .returned (.pointer (some ⟨w.heap.size, 0, none⟩)) ∧ w' = w.alloc (.cells #[.bool true, .slice none 0 0, .slice none 0 0] 69) := by
  go_enter Tryd.func53, Tryd.ntmps53
  go_wp2_with fail
  go_ret
  exact ⟨rfl, rfl⟩
theorem log_new (w : World) : LogAt (w.alloc (.cells #[.bool true, .slice none 0 0, .slice none 0 0] 69)) (fun k => if k = w.heap.size then 0 else -1) w.heap.size [] := by
  refine ⟨.slice none 0 0, .slice none 0 0, [], [], ?_, rfl, rfl⟩
  exact {
    row := RowAt.new w 69 [.bool true, .slice none 0 0, .slice none 0 0]
    tg := if_pos rfl
    eo := World.ownsRow_nil _ _ _ _
    te := fun k hk => by cases hk
    ho := World.ownsRow_nil _ _ _ _
    th := fun k hk => by cases hk
    qo := fun i x hx => by cases hx
    ql := fun i x hx => by cases hx
    eb := fun x hx => by cases hx }
set_option maxRecDepth 100000 in
set_option maxHeartbeats 8000000 in
theorem len_log (g : Nat) (E : List (List Nat)) (τ : Nat → Int) (w : World) (hL : LogAt w τ g E) : Calls Tryd.prog 26 #[.pointer (some ⟨g, 0, none⟩)] w fun e w' => e = .returned (.int .i64 (E.length : Int)) ∧ w = w' := by
  obtain ⟨ev, hv, P, Q, h1, h2, h3⟩ := hL
  have HM := hide (lmade_any g true ev hv w h1.row)
  have c1 : w.cell? ⟨g, 1, none⟩ = some ev := h1.row.cell 1
  obtain ⟨ea, ec, rfl, _⟩ := own_shape h1.eo
  have hn : P.length = E.length := by rw [← h2, List.length_map]
  rw [hn] at c1
  clear h1 h2 h3 hn
  go_enter Tryd.func26, Tryd.ntmps26
  go_wp2_with fail
  refine Calls.mono (unhide HM) ?_
  rintro e w2 ⟨rfl, rfl⟩
  go_wp2_with fail
  go_ret
  exact ⟨rfl, rfl⟩
set_option maxRecDepth 100000 in
set_option maxHeartbeats 8000000 in
theorem add_log (g : Nat) (E : List (List Nat)) (τ : Nat → Int) (R : List (Value × List Nat)) (v : Value) (w : World) (hT : Tabs w) (hτ : ∀ k, τ k ≠ -1 → 7 ≤ k) (hL : LogAt w τ g E) (hv : LL w v R) (hf : LF v R (fun k => τ k ≠ -1)) (hR8 : ∀ x ∈ R, U8 x.2) (hRl : ∀ x ∈ R, x.2.length ≤ 100000) (hn : E.length + R.length ≤ 1000) :
    Calls Tryd.prog 24 #[.pointer (some ⟨g, 0, none⟩), v] w fun e w' => e = .returned (.int .i64 0) ∧ ∃ τ' : Nat → Int, LogAt w' τ' g (E ++ R.map (·.2)) ∧ (∀ k, k < w.heap.size → τ' k = τ k) ∧ Only (fun k => τ k ≠ -1) w w' := by
  have HM := hide (let ⟨ev, hv, h⟩ := hL.row; lmade_any g true ev hv w h)
  have HT := hide hT
  have HTA := hide hτ
  have HL := hide hL
  have HV := hide hv
  have HF := hide hf
  have H8 := hide hR8
  have HRL := hide hRl
  have HNE := hide hn
  obtain ⟨a, cap, rfl, hcap, _⟩ := hv
  obtain ⟨N, hN⟩ : ∃ N, R.length = N := ⟨_, rfl⟩
  rw [hN]
  have HNN := hide hN
  have hNm : N ≤ 1000 := by omega
  clear hT hτ hL hf hR8 hRl hcap hN hn
  go_enter Tryd.func24, Tryd.ntmps24
  go_wp2_with fail
  refine Calls.mono (unhide HM) ?_
  rintro e w1 ⟨rfl, rfl⟩
  go_wp2_with fail
  go_loopw [12] (fun s wr => ∃ k : Nat, k ≤ N ∧ s = .int .i64 (k : Int) ∧ Hid (∃ τ' : Nat → Int, LogAt wr τ' g (E ++ (R.take k).map (·.2)) ∧ (∀ k, k < w.heap.size → τ' k = τ k) ∧ Only (fun k => τ k ≠ -1) w wr)) (fun s _ => (N - intOf s).toNat)
  case atStart => exact ⟨0, by omega, rfl, τ, by simpa using unhide HL, fun _ _ => rfl, Only.refl _ _⟩
  case round =>
    obtain ⟨k, hk, rfl, HB⟩ := hrel
    by_cases hlt : k < N
    · have hkP : k < R.length := by rw [unhide HNN]; exact hlt
      obtain ⟨⟨u, l⟩, hul⟩ : ∃ x, R[k]? = some x := ⟨_, List.getElem?_eq_getElem hkP⟩
      obtain ⟨τ1, d1, d3, d2⟩ := unhide HB
      obtain ⟨a', cap', hav, _, hq⟩ := (unhide HV).only' d2 (unhide HF)
      obtain ⟨rfl, _, rfl⟩ : a = a' ∧ _ ∧ cap = cap' := by injection hav with h1 h2 h3; exact ⟨h1, h2, h3⟩
      obtain ⟨⟨b, rfl, hc⟩, hby⟩ := hq k u l hul
      have hmem := List.mem_of_getElem? hul
      obtain ⟨ev, hv1, P, Q, hLg, hP, hQ⟩ := d1
      have c1 : wr.cell? ⟨g, 1, none⟩ = some ev := hLg.row.cell 1
      have z1 : wr.frozen? ⟨g, 1, none⟩ = false := hLg.row.frozen 1
      have hkN : (k : Int) < (N : Int) := by omega
      obtain ⟨ea, ec, rfl, hec⟩ := own_shape hLg.eo
      obtain ⟨en, hen⟩ : ∃ n, P.length = n := ⟨_, rfl⟩
      obtain ⟨ua, uc, rfl⟩ := byt_shape hby
      obtain ⟨ln, hln⟩ : ∃ n, l.length = n := ⟨_, rfl⟩
      have hE1 : E.length + k ≤ 1000 := by have := unhide HNE; rw [unhide HNN] at this; omega
      have henE : en = (E ++ (R.take k).map (·.2)).length := by rw [← hen, ← hP, List.length_map]
      have hen1 : en ≤ 1000 := by
        rw [henE, List.length_append, List.length_map, List.length_take]
        omega
      rw [hen] at c1
      rw [hln] at hc
      obtain ⟨i22, hi22, hz22, hs22, hb22⟩ := info_parts info22'
      have hgl := hLg.row.lt
      have hll : l.length ≤ 100000 := unhide HRL _ hmem
      have hneg : ∀ k, (Value.slice ea en ec).ownBlock = some k → k ≠ g := fun k hk e => by
        have := hLg.te k (by rw [hen]; exact hk)
        rw [e, hLg.tg] at this
        omega
      have HCL := hide (clone_any (.slice ua l.length uc) l wr.drew (hby.call ((Below.refl _ _).drew)) (by omega))
      rw [hln] at HCL
      have heo := hLg.eo
      rw [hen] at heo
      have HEO := hide heo
      have HNEG := hide hneg
      have HLG := hide hLg
      have HC1 := hide c1
      have HZ1 := hide z1
      have HEN := hide hen
      have HLN := hide hln
      have HP := hide hP
      have HQ := hide hQ
      have HD3 := hide d3
      have HD2 := hide d2
      have HBY := hide hby
      have HMEM := hide hmem
      have HUL := hide hul
      have HEE := hide henE
      have HK := hide hk
      clear hLg heo hneg c1 z1 hen hln hP hQ d3 d2 hby hmem hul hec hq hav henE hll HB
      go_wp2_with fail
      obtain ⟨I, hI⟩ : ∃ I : (Nat → Bool) → Act → World → Prop, I = fun dn a' w' => ∃ u : Nat → Value, a' = { tmps := #[.pointer (some ⟨g, 0, none⟩), .slice (some b) N cap, undef, undef, .int .i64 0, undef, .slice ua ln uc, .pointer (some ⟨g, 0, none⟩), .bool true, .bool false, .slice (some b) N cap, .int .i64 (N : Int), .int .i64 (k : Int), .bool true, .pointer (some (b.add k)), .slice ua ln uc, u 0, u 1, u 2, u 3, u 4, u 5, u 6, u 7, u 8, u 9, u 10, u27, u28, u29, u30, u31], defers := [] } ∧ Rh (avV g (.slice ea en ec) (.slice ua ln uc)) avP 9 10 6 7 8 11 (fun w' => w' = wr.drew) (A1 wr l) (A2 wr l) (A3 wr l (.slice ea en ec) en (P.map (·.1))) (A4 wr l (.slice ea en ec) en (P.map (·.1)) g) dn u w' := ⟨_, rfl⟩
      have HI := hide hI
      clear hI
      refine wp_region_inv I (by kernel_rfl) (by kernel_rfl) ?_ ?_ ?_
      · rw [unhide HI]
        exact ⟨fun i => [u16, u17, u18, u19, u20, u21, u22, u23, u24, u25, u26].getD i undef, rfl, Rh.start (M0 := fun w' => w' = wr.drew) rfl _⟩
      · intro dn a' w' i hId hi17 hdn hdep
        rw [unhide HI] at hId
        obtain ⟨u, rfl, h⟩ := hId
        have hi18 : i < 12 := hi17
        have H := hide h
        clear h
        rcases (by omega : i = 0 ∨ i = 1 ∨ i = 2 ∨ i = 3 ∨ i = 4 ∨ i = 5 ∨ i = 6 ∨ i = 7 ∨ i = 8 ∨ i = 9 ∨ i = 10 ∨ i = 11) with rfl | rfl | rfl | rfl | rfl | rfl | rfl | rfl | rfl | rfl | rfl | rfl
        · refine wpOp_of rfl rfl ?_
          go_wp2_with fail
          rw [unhide HI]
          refine ⟨fun i => if i = 0 then avV g (.slice ea en ec) (.slice ua ln uc) 0 else u i, ?_, (unhide H).pure 0 (by decide) (by decide) (by decide) (by decide) hdn (fun h => by cases h)⟩
          simp [avV]
        · refine wpOp_of rfl rfl ?_
          go_wp2_with fail
          rw [unhide HI]
          refine ⟨fun i => if i = 1 then avV g (.slice ea en ec) (.slice ua ln uc) 1 else u i, ?_, (unhide H).pure 1 (by decide) (by decide) (by decide) (by decide) hdn (fun h => by cases h)⟩
          simp [avV]
        · have d1 := hdep _ rfl { on := 1, ground := .data } (by simp) rfl
          have e1 : u 1 = _ := (unhide H).val 1 ⟨by decide, by decide, by decide, by decide⟩ d1
          simp only [avV] at e1
          refine wpOp_of rfl rfl ?_
          go_wp2_with fail
          rw [unhide HI]
          refine ⟨fun i => if i = 2 then avV g (.slice ea en ec) (.slice ua ln uc) 2 else u i, ?_, (unhide H).pure 2 (by decide) (by decide) (by decide) (by decide) hdn (fun h => by cases h)⟩
          simp [avV, e1]
        · have d2 := hdep _ rfl { on := 2, ground := .data } (by simp) rfl
          have e2 : u 2 = _ := (unhide H).val 2 ⟨by decide, by decide, by decide, by decide⟩ d2
          simp only [avV] at e2
          refine wpOp_of rfl rfl ?_
          go_wp2_with fail
          rw [unhide HI]
          refine ⟨fun i => if i = 3 then avV g (.slice ea en ec) (.slice ua ln uc) 3 else u i, ?_, (unhide H).pure 3 (by decide) (by decide) (by decide) (by decide) hdn (fun h => by cases h)⟩
          simp [avV, e2]
        · have d3 := hdep _ rfl { on := 3, ground := .data } (by simp) rfl
          have e3 : u 3 = _ := (unhide H).val 3 ⟨by decide, by decide, by decide, by decide⟩ d3
          simp only [avV] at e3
          have g1 : w'.cell? ⟨g, 1, none⟩ = some (.slice ea en ec) := by
            have h11 := (unhide H).not4 (k := 4) (by decide) hdn
            cases h6 : dn 6 with
            | false => rw [(unhide H).m0 h6]; exact unhide HC1
            | true =>
              cases h7 : dn 7 with
              | false => exact (((unhide H).m1 h6 h7).1.cell (p := ⟨g, 1, none⟩) hgl).trans (unhide HC1)
              | true =>
                cases h8 : dn 8 with
                | false =>
                  obtain ⟨w1, q1, q2, _⟩ := (unhide H).m2 h7 h8
                  rw [q2]
                  exact (World.cell?_alloc_lt _ _ _ (Nat.lt_of_lt_of_le hgl q1.1.size)).trans (q1.1.cell (p := ⟨g, 1, none⟩) hgl |>.trans (unhide HC1))
                | true =>
                  obtain ⟨cv, b1, c1, _, _, q3, _⟩ := (unhide H).m3 h8 h11
                  exact q3.cell (q := ⟨g, 1, none⟩) (fun e => unhide HNEG _ e rfl) (unhide HC1)
          refine wpOp_of rfl rfl ?_
          go_wp2_with fail
          rw [unhide HI]
          refine ⟨fun i => if i = 4 then avV g (.slice ea en ec) (.slice ua ln uc) 4 else u i, ?_, (unhide H).pure 4 (by decide) (by decide) (by decide) (by decide) hdn (fun h => by cases h)⟩
          simp [avV, e3]
        · refine wpOp_of rfl rfl ?_
          go_wp2_with fail
          rw [unhide HI]
          refine ⟨fun i => if i = 5 then avV g (.slice ea en ec) (.slice ua ln uc) 5 else u i, ?_, (unhide H).pure 5 (by decide) (by decide) (by decide) (by decide) hdn (fun h => by cases h)⟩
          simp [avV]
        · have d5 := hdep _ rfl { on := 5, ground := .data } (by simp) rfl
          have e5 : u 5 = _ := (unhide H).val 5 ⟨by decide, by decide, by decide, by decide⟩ d5
          simp only [avV] at e5
          obtain rfl := (unhide H).m0 hdn
          refine wpOp_of rfl rfl ?_
          go_wp2_with fail
          refine Calls.mono (unhide HCL) ?_
          rintro e w6 ⟨cv, rfl, o6, b6⟩
          rw [unhide HI]
          refine ⟨fun i => if i = 6 then cv else u i, ?_, (unhide H).s1 (by decide) (by decide) (by decide) (fun h => h.2.1 rfl) (by decide) hdn ⟨⟨b6.os, b6.tape, b6.output, b6.size, b6.block⟩, by rw [unhide HLN]; exact o6⟩⟩
          simp [e5]
        · have d6 := hdep _ rfl { on := 6, ground := .data } (by simp) rfl
          obtain ⟨b6, o6⟩ := (unhide H).m1 d6 hdn
          obtain ⟨ca, cc, hcv⟩ : ∃ a c, u 6 = .slice a l.length c := by
            obtain ⟨a, c, q, _⟩ := own_shape o6
            exact ⟨a, c, q⟩
          rw [unhide HLN] at hcv
          have HO6 := hide (And.intro b6 o6)
          clear b6 o6
          refine wpOp_of rfl rfl ?_
          have e6 := hcv
          go_wp2_with fail
          rw [unhide HI]
          refine ⟨fun i => if i = 7 then .slice (some ⟨w'.heap.size, 0, none⟩) 1 1 else u i, ?_, (unhide H).s2 (by decide) (by decide) (by decide) (fun h => h.2.2.1 rfl) (by decide) hdn d6 ⟨w', unhide HO6, by rw [e6], rfl⟩⟩
          simp [e6]
        · have d4 := hdep _ rfl { on := 4, ground := .data } (by simp) rfl
          have d7 := hdep _ rfl { on := 7, ground := .data } (by simp) rfl
          have e4 : u 4 = _ := (unhide H).val 4 ⟨by decide, by decide, by decide, by decide⟩ d4
          simp only [avV] at e4
          obtain ⟨w1, ⟨b6, o6⟩, rfl, e7⟩ := (unhide H).m2 d7 hdn
          refine wpOp_of rfl rfl ?_
          have sz : (w1.alloc (.cells #[u 6] 22)).heap.size = w1.heap.size + 1 := size_alloc _ _
          have xo : (w1.alloc (.cells #[u 6] 22)).ownsRow 0 22 1 (.slice ea en ec) en (P.map (·.1)) := own_only (own_only (unhide HEO) (Only.of_below (p := fun _ => False) b6) (fun _ _ h => h)) (Only.alloc (Only.refl (fun _ => False) w1) _) (fun _ _ h => h)
          refine wp_append_lies _ _ _ _ rfl 0 22 i22 (.slice none 0 0) 1 24 Tryd.underlying35 hi22 hz22 hs22 hb22 rfl (by decide) (.slice ea en ec) en (P.map (·.1)) e4 xo ⟨w1.heap.size, 0, none⟩ 1 1 [u 6] e7 rfl (cell_one_new _ _ _) (fun q hq => by obtain rfl := List.mem_singleton.1 hq; obtain ⟨qa, qc, qe, _⟩ := own_shape o6; rw [qe]; rfl) (by decide) (by unfold maxLen; omega) (by omega) (Nat.zero_le _) (w1.heap.size + 1) sz ?_
          intro gn cp w3 own3 grow3 lies3 lt3
          rw [unhide HI]
          have on3 : Only (fun k => (Value.slice ea en ec).ownBlock = some k) wr w3 := (Only.of_below b6).trans ((Only.alloc (Only.refl _ w1) _).trans (grown_only grow3))
          have hev : ∀ k, (Value.slice ea en ec).ownBlock = some k → k < wr.heap.size := fun k hk => own_block_lt (unhide HEO) k hk
          have hcvb : ∀ k, (u 6).ownBlock = some k → wr.heap.size ≤ k ∧ k < w1.heap.size := fun k hk => ⟨(o6.lt k hk).1, (o6.lt k hk).2⟩
          refine ⟨fun i => if i = 8 then .slice (some ⟨gn, 0, none⟩) (en + 1) cp else u i, rfl, (unhide H).s3 (by decide) (by decide) (by decide) (fun h => h.2.2.2 rfl) (by decide) hdn d7 ⟨u 6, gn, cp, rfl, own3, on3, ?_, ?_, ?_⟩⟩
          · rcases lies3 with q | q
            · exact .inl q
            · have := b6.size; exact .inr (by omega)
          · have y1 : Byt w1 (u 6) l := Byt.of_own o6
            have y2 : Byt (w1.alloc (.cells #[u 6] 22)) (u 6) l := y1.call ((Below.refl _ _).alloc (Nat.le_refl _) _)
            refine (grown_only grow3).byt' y2 (fun hl k hk e => ?_)
            have := hcvb k hk
            have := hev k e
            omega
          · intro hl k hk
            have h1 := hcvb k hk
            refine ⟨h1.1, fun e => ?_⟩
            rcases lies3 with q | q
            · have := hev gn q; omega
            · omega
        · have d0 := hdep _ rfl { on := 0, ground := .data } (by simp) rfl
          have e0 : u 0 = _ := (unhide H).val 0 ⟨by decide, by decide, by decide, by decide⟩ d0
          simp only [avV] at e0
          refine wpOp_of rfl rfl ?_
          go_wp2_with fail
          rw [unhide HI]
          refine ⟨fun i => if i = 9 then avV g (.slice ea en ec) (.slice ua ln uc) 9 else u i, ?_, (unhide H).pure 9 (by decide) (by decide) (by decide) (by decide) hdn (fun h => by cases h)⟩
          simp [avV, e0]
        · have d9 := hdep _ rfl { on := 9, ground := .data } (by simp) rfl
          have e9 : u 9 = _ := (unhide H).val 9 ⟨by decide, by decide, by decide, by decide⟩ d9
          simp only [avV] at e9
          refine wpOp_of rfl rfl ?_
          go_wp2_with fail
          rw [unhide HI]
          refine ⟨fun i => if i = 10 then avV g (.slice ea en ec) (.slice ua ln uc) 10 else u i, ?_, (unhide H).pure 10 (by decide) (by decide) (by decide) (by decide) hdn (fun _ => d9)⟩
          simp [avV, e9]
        · have hall : ∀ k, k < 11 → dn k = true := by
            intro k hk
            have : k = 0 ∨ k = 1 ∨ k = 2 ∨ k = 3 ∨ k = 4 ∨ k = 5 ∨ k = 6 ∨ k = 7 ∨ k = 8 ∨ k = 9 ∨ k = 10 := by omega
            rcases this with rfl | rfl | rfl | rfl | rfl | rfl | rfl | rfl | rfl | rfl | rfl
            · exact hdep _ rfl { on := 0, ground := .phase } (by simp) rfl
            · exact hdep _ rfl { on := 1, ground := .phase } (by simp) rfl
            · exact hdep _ rfl { on := 2, ground := .phase } (by simp) rfl
            · exact hdep _ rfl { on := 3, ground := .phase } (by simp) rfl
            · exact hdep _ rfl { on := 4, ground := .phase } (by simp) rfl
            · exact hdep _ rfl { on := 5, ground := .phase } (by simp) rfl
            · exact hdep _ rfl { on := 6, ground := .phase } (by simp) rfl
            · exact hdep _ rfl { on := 7, ground := .phase } (by simp) rfl
            · exact hdep _ rfl { on := 8, ground := .phase } (by simp) rfl
            · exact (unhide H).kx (hdep _ rfl { on := 10, ground := .data } (by simp) rfl)
            · exact hdep _ rfl { on := 10, ground := .data } (by simp) rfl
          have e10 : u 10 = _ := (unhide H).val 10 ⟨by decide, by decide, by decide, by decide⟩ (hall 10 (by decide))
          simp only [avV] at e10
          have hm3 := (unhide H).m3 (hall 8 (by decide)) hdn
          have HM3 := hide hm3
          obtain ⟨cv, b1, c1, e8, _, q3, _⟩ := hm3
          have q4 := q3.cell (q := ⟨g, 1, none⟩) (fun e => unhide HNEG _ e rfl) (unhide HC1)
          have q5 : w'.frozen? ⟨g, 1, none⟩ = false := (World.frozen?_of_block (q3.block g hgl (fun e => unhide HNEG _ e rfl))).trans (unhide HZ1)
          clear q3
          refine wpOp_of rfl rfl ?_
          go_wp2_with fail
          rw [unhide HI]
          refine ⟨u, ?_, ?_⟩
          · simp [e8, e10]
          · refine (unhide H).s4 (by decide) (by decide) (by decide) (fun k hk => hk.1) (by decide) hdn hall ⟨w', u 8, unhide HM3, ?_⟩
            rw [e8]
      · intro dn a' w' hId hall
        rw [unhide HI] at hId
        obtain ⟨u, rfl, h⟩ := hId
        obtain ⟨w3, v3, hA3, rfl⟩ := h.m4 (hall 11 (by decide))
        obtain ⟨cv, b1, c1, hv3, o3, on3, hat, hcb, hcn⟩ := hA3
        obtain ⟨τ2, old2, L2⟩ := (unhide HLG).addE (ev' := v3) (cv := cv) (d := l) (w2 := w3) (by rw [unhide HEN]; exact on3) (by rw [unhide HEN]; exact o3) (fun k hk => by
          rw [hv3] at hk
          have : b1 = k := by simpa [Value.ownBlock] using hk
          subst this
          rw [unhide HEN]
          exact hat) hcb (unhide H8 _ (unhide HMEM)) (fun hl k hk => by
          obtain ⟨q1, q2⟩ := hcn hl k hk
          refine ⟨q1, fun e => ?_⟩
          rw [hv3] at e
          exact q2 (by simpa [Value.ownBlock] using e))
        have hsz : w.heap.size ≤ wr.heap.size := (unhide HD2).size
        have old4 : ∀ k, k < w.heap.size → τ2 k = τ k := fun k hk => by rw [old2 k (by omega)]; exact unhide HD3 k hk
        have ht2 : ∀ k, τ2 k ≠ -1 → 7 ≤ k := fun k hk => by
          by_cases hlt : k < w.heap.size
          · rw [old4 k hlt] at hk; exact unhide HTA k hk
          · have := (unhide HT).two; omega
        have o5 : Only (fun k => k = g) w3 (w3.setCell ⟨g, 1, none⟩ v3) := (Only.refl _ _).set g 1 _ rfl
        have on5 : Only (fun k => τ k ≠ -1) w (w3.setCell ⟨g, 1, none⟩ v3) := by
          refine (unhide HD2).next (q := fun k => (Value.slice ea en ec).ownBlock = some k ∨ k = g) ((on3.mono (fun i hi => .inl hi)).trans (o5.mono (fun i hi => .inr hi))) (fun i hi => ?_)
          by_cases hlt : i < w.heap.size
          · left
            show τ i ≠ -1
            rw [← unhide HD3 i hlt]
            rcases hi with hi | hi
            · rw [(unhide HLG).te i (by rw [unhide HEN]; exact hi)]; omega
            · rw [hi, (unhide HLG).tg]; omega
          · right; omega
        have hby5 : Byt (w3.setCell ⟨g, 1, none⟩ v3) (.slice ua ln uc) l := by
          have hb0 := LL.each (unhide HV) _ (unhide HMEM)
          have hb0 : Byt w (.slice ua l.length uc) l := hb0
          rw [unhide HLN] at hb0
          exact on5.byt' hb0 (fun hl => by have := (unhide HF).2 _ (unhide HMEM) hl; rw [unhide HLN] at this; exact this)
        have T5 : Tabs (w3.setCell ⟨g, 1, none⟩ v3) := (unhide HT).only on5 (fun k hk => unhide HTA k hk)
        have HLF := hide (leaf_any (.slice ua ln uc) l _ T5 hby5 (unhide H8 _ (unhide HMEM)) (by have : l.length ≤ 100000 := unhide HRL _ (unhide HMEM); omega))
        have HL2 := hide L2
        have HO4 := hide old4
        have HT2 := hide ht2
        have HON5 := hide on5
        have HT5 := hide T5
        clear h hall HI L2 old4 ht2 on5 T5 hby5 on3 o5 o3 hat hcb hcn old2 hv3
        generalize w3.setCell ⟨g, 1, none⟩ v3 = W5 at *
        generalize u 0 = y0 at *
        generalize u 1 = y1 at *
        generalize u 2 = y2 at *
        generalize u 3 = y3 at *
        generalize u 4 = y4 at *
        generalize u 5 = y5 at *
        generalize u 6 = y6 at *
        generalize u 7 = y7 at *
        generalize u 8 = y8 at *
        generalize u 9 = y9 at *
        generalize u 10 = y10 at *
        go_wp2_with fail
        refine Calls.mono (unhide HLF) ?_
        rintro e W6 ⟨rfl, b6⟩
        have hE9 : (E ++ (R.take k).map (·.2)).length ≤ 1000 := by rw [← unhide HEE]; exact hen1
        have HCM := hide (climb_any W6 τ2 g v3 hv1 (P ++ [(cv, l)]) Q (E ++ (R.take k).map (·.2)) l (leafL l) ((unhide HT5).below b6) (unhide HT2) ((unhide HL2).call b6) (unhide HQ) hE9 rfl (sumL_8 _ _))
        obtain ⟨Z, hZ⟩ : ∃ A, (bv (leafL l)).toArray = A := ⟨_, rfl⟩
        rw [hZ] at HCM ⊢
        have HB6 := hide b6
        clear b6 hZ hE9 HLF
        go_wp2_with fail
        refine Calls.mono (unhide HCM) ?_
        rintro e W7 ⟨rfl, τ3, hv3, Q3, L7, hQ7, old7, on7⟩
        have eT : (R.take (k + 1)).map (·.2) = (R.take k).map (·.2) ++ [l] := by
          have hkR : k < R.length := by rw [unhide HNN]; exact hlt
          rw [List.take_succ_eq_append_getElem hkR, List.map_append]
          have : R[k] = (.slice ua l.length uc, l) := by have h := unhide HUL; rw [List.getElem?_eq_getElem hkR] at h; exact Option.some.inj h
          rw [this]
          rfl
        have HB2 : Hid (∃ τ' : Nat → Int, LogAt W7 τ' g (E ++ (R.take (k + 1)).map (·.2)) ∧ (∀ k, k < w.heap.size → τ' k = τ k) ∧ Only (fun k => τ k ≠ -1) w W7) := hide (by
          refine ⟨τ3, ⟨v3, hv3, _, Q3, L7, ?_, ?_⟩, fun i hi => ?_, ?_⟩
          · rw [List.map_append, unhide HP, eT, List.append_assoc]; rfl
          · rw [hQ7, eT, List.append_assoc]
          · rw [old7 i (by have := (unhide HON5).size; have := (unhide HB6).size; omega)]; exact unhide HO4 i hi
          · refine ((unhide HON5).trans (Only.of_below (unhide HB6))).next on7 (fun i hi => ?_)
            by_cases hlt : i < w.heap.size
            · left; show τ i ≠ -1; rw [← unhide HO4 i hlt]; exact hi
            · right; omega)
        have HLT := hide hlt
        clear L7 hQ7 old7 on7 eT HCM hlt
        go_wp2_with fail
        go_roundw
        case rel => exact ⟨k + 1, by have := unhide HLT; omega, by go_num, HB2⟩
        case measure => have := unhide HLT; simp [intOf]; omega
    · have hk8 : k = N := by omega
      have hnn : ¬ (k : Int) < (N : Int) := by omega
      rw [List.take_of_length_le (by rw [unhide HNN]; omega)] at HB
      go_wp2_with fail
      go_ret
      exact ⟨rfl, unhide HB⟩
end Go.Proofs.YtonkgiiacholeaaDoor
