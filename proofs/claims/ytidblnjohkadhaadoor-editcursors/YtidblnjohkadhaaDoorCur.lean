/- Cursor of an edit, within it. -/
import Derived.Test.YtidblnjohkadhaaDoorSam
namespace Go.Proofs.YtidblnjohkadhaaDoor
set_option linter.unusedVariables false
set_option linter.unusedSimpArgs false
open Go.ChangeShapes Go.WideShapes Go.ChangeAt Go.RowKit Go.Joins Go.Deep

theorem cur_map (cs : List (List UInt8)) (x : List At) (n : Nat) (f : Bool) : At.cur (cs.map .p ++ x) n f = (if n = 0 ∧ f = false then 0 else cs.length) + At.cur x n f := by
  induction cs with
  | nil => simp
  | cons c cs ih =>
    simp only [List.map_cons, List.cons_append, At.cur, List.length_cons]
    rw [ih]
    split <;> omega
theorem cur_rep_k (m : Nat) (x : List At) : ∀ (n : Nat) (f : Bool), At.cur (List.replicate m .k ++ x) n f = if n < m then n else m + At.cur x (n - m) f := by
  induction m with
  | zero => intro n f; simp
  | succ m ih =>
    intro n f
    cases n with
    | zero => simp [List.replicate_succ, At.cur]
    | succ n =>
      simp only [List.replicate_succ, List.cons_append, At.cur]
      rw [ih]
      by_cases h : n < m
      · rw [if_pos h, if_pos (by omega)]; omega
      · rw [if_neg h, if_neg (by omega), show n + 1 - (m + 1) = n - m by omega]; omega
theorem cur_rep_d (m : Nat) (x : List At) : ∀ (n : Nat) (f : Bool), At.cur (List.replicate m .d ++ x) n f = if n < m then 0 else At.cur x (n - m) f := by
  induction m with
  | zero => intro n f; simp
  | succ m ih =>
    intro n f
    cases n with
    | zero => simp [List.replicate_succ, At.cur]
    | succ n =>
      simp only [List.replicate_succ, List.cons_append, At.cur]
      rw [ih]
      by_cases h : n < m
      · rw [if_pos h, if_pos (by omega)]
      · rw [if_neg h, if_neg (by omega), show n + 1 - (m + 1) = n - m by omega]
/-- where the cursor stands -/
structure KI (A : List At) (n0 : Nat) (f : Bool) (l : List Pt) (n t : Nat) : Prop where
  eq : At.cur A n0 f = t + At.cur (atomsL l) n f
  le : n ≤ At.fromN (atomsL l)
theorem KI.put {A : List At} {n0 n t : Nat} {f : Bool} {p : Pt} {l : List Pt} (h : KI A n0 f (p :: l) n t) (hg : Fit1 p) (hk : p.kind = 2) : KI A n0 f l n (t + if n = 0 ∧ f = false then 0 else p.n.toNat) := by
  rcases hg.1.cases with ⟨k, _⟩ | ⟨k, _⟩ | ⟨_, ds, x3, x4, e⟩
  · omega
  · omega
  · refine ⟨?_, ?_⟩
    · rw [h.eq, atomsL, e, cur_map, show ds.length = p.n.toNat by omega]; omega
    · have := h.le; rw [atomsL, At.from_app, e, from_map] at this; omega
theorem KI.keep {A : List At} {n0 n t : Nat} {f : Bool} {p : Pt} {l : List Pt} (h : KI A n0 f (p :: l) n t) (hg : Fit1 p) (hk : p.kind = 1) : (n < p.n.toNat → At.cur A n0 f = t + n) ∧ (p.n.toNat ≤ n → KI A n0 f l (n - p.n.toNat) (t + p.n.toNat)) := by
  rcases hg.1.cases with ⟨_, _, e⟩ | ⟨k, _⟩ | ⟨k, _⟩
  · have h1 := h.eq
    have h2 := h.le
    rw [atomsL, e, cur_rep_k] at h1
    rw [atomsL, At.from_app, e, from_rep_k] at h2
    refine ⟨fun hlt => by rw [h1, if_pos hlt], fun hle => ⟨?_, by omega⟩⟩
    rw [h1, if_neg (by omega)]; omega
  · omega
  · omega
theorem KI.drop {A : List At} {n0 n t : Nat} {f : Bool} {p : Pt} {l : List Pt} (h : KI A n0 f (p :: l) n t) (hg : Fit1 p) (hk : p.kind = 3) : (n < p.n.toNat → At.cur A n0 f = t) ∧ (p.n.toNat ≤ n → KI A n0 f l (n - p.n.toNat) t) := by
  rcases hg.1.cases with ⟨k, _⟩ | ⟨_, _, e⟩ | ⟨k, _⟩
  · omega
  · have h1 := h.eq
    have h2 := h.le
    rw [atomsL, e, cur_rep_d] at h1
    rw [atomsL, At.from_app, e, from_rep_d] at h2
    refine ⟨fun hlt => by rw [h1, if_pos hlt]; omega, fun hle => ⟨?_, by omega⟩⟩
    rw [h1, if_neg (by omega)]
  · omega
theorem KI.ends {A : List At} {n0 n t : Nat} {f : Bool} (h : KI A n0 f [] n t) : At.cur A n0 f = t := by rw [h.eq]; simp [atomsL, At.cur]
theorem KI.most {A : List At} {n0 n t : Nat} {f : Bool} {l : List Pt} (h : KI A n0 f l n t) (hA : At.toN A ≤ 1099511627776) : t ≤ 1099511627776 := by
  have := At.cur_le A n0 f
  have := h.eq
  omega
set_option maxRecDepth 100000 in
set_option maxHeartbeats 4000000 in
theorem cursor_ed {w : World} {a : Option Addr} {l : List Pt} {c F T : Nat} (hT : UT w) (he : Edit w a l c) (hd : IsEd l F T) (at_ : Nat) (ha : at_ ≤ F) (ah : Bool) :
    Calls Tryd.prog 48 #[.slice a l.length c, .int .i64 (at_ : Int), .bool ah] w fun r w' => r = .returned (.tuple #[.int .i64 (At.cur (atomsL l) at_ ah : Int), .int .i64 0]) ∧ Below w.heap.size w w' := by
  have HSZ := hide (size_any a l c w hT he.pts (Nat.le_trans he.cap he.max) he.txt2)
  have e : szVal l = .tuple #[.int .i64 (F : Int), .int .i64 (T : Int), .int .i64 0] := by unfold szVal; rw [ed_size hd]
  rw [e] at HSZ
  have HW : Hid (∀ W : World, Calls Tryd.prog 60 #[.int .i64 (at_ : Int), .int .i64 (F : Int)] W fun r w' => r = .returned (.bool true) ∧ W = w') := hide (fun W => by
    have h := within_any (at_ : Int) (F : Int) W
    rw [show (decide ((0 : Int) ≤ (at_ : Int)) && decide ((at_ : Int) ≤ (F : Int))) = true by simp; omega] at h
    exact h)
  have HP := hide he.pts
  have HGD := hide (ed_fit hd)
  have HTL : Hid (At.toN (atomsL l) ≤ 1099511627776) := hide (by rw [hd.2.2.1]; exact hd.2.2.2.2)
  have HI0 : Hid (KI (atomsL l) at_ ah (l.drop 0) at_ 0) := hide ⟨by simp, by simpa using (show at_ ≤ At.fromN (atomsL l) by rw [hd.2.1]; exact ha)⟩
  have hFl := hd.2.2.2.1
  obtain ⟨n, hn⟩ : ∃ n, l.length = n := ⟨_, rfl⟩
  have hc : n ≤ maxLen := by rw [← hn]; exact Nat.le_trans he.cap he.max
  rw [hn] at HSZ ⊢
  have HN := hide hn
  have nI : (n : Int) ≤ 9223372036854775807 := by unfold maxLen at hc; omega
  clear hT he hd e hn
  go_enter Tryd.func48, Tryd.ntmps48
  go_wp2_with fail
  refine Calls.mono (unhide HSZ) ?_
  rintro r w1 ⟨rfl, hb1⟩
  have HB1 := hide hb1
  clear hb1 HSZ
  go_wp2_with fail
  refine Calls.mono (unhide HW _) ?_
  rintro r w1' ⟨rfl, rfl⟩
  go_wp2_with fail
  go_loopw [1, 11, 31] (fun av tv i wr => ∃ (k m t : Nat), k ≤ n ∧ i = .int .i64 (k : Int) ∧ av = .int .i64 (m : Int) ∧ tv = .int .i64 (t : Int) ∧ m ≤ at_ ∧ t ≤ 1099511627776 ∧ Hid (Below w.heap.size w wr) ∧ Hid (KI (atomsL l) at_ ah (l.drop k) m t)) (fun _ _ i _ => ((n : Int) - intOf i).toNat)
  case atStart => exact ⟨0, at_, 0, by omega, by simp, by simp, by simp, by omega, by omega, HB1, HI0⟩
  case round =>
    obtain ⟨k, m, t, hk, rfl, rfl, rfl, hm, htm, HB, HI⟩ := hrel
    by_cases hlt : k < n
    · have kI : (k : Int) < (n : Int) := by omega
      obtain ⟨p, hpk⟩ : ∃ p, l[k]? = some p := ⟨_, List.getElem?_eq_getElem (by have := unhide HN; omega)⟩
      obtain ⟨b, off, rfl, e0, e1, e2⟩ := (unhide HP).at_ (unhide HB) hpk
      have hdr : l.drop k = p :: l.drop (k + 1) := by
        rw [List.drop_eq_getElem_cons (by have := unhide HN; omega)]
        congr 1
        exact (List.getElem?_eq_some_iff.1 hpk).2
      rw [hdr] at HI
      have HG := hide (unhide HGD p (List.mem_of_getElem? hpk))
      have hp1 : 1 ≤ p.n := (unhide HG).1.1
      have hp2 : p.n ≤ 1099511627776 := (unhide HG).2
      have HBA := hide ((unhide HB).alloc (unhide HB).size (.cells #[.int .i64 p.kind, .int .i64 p.n, .string p.text] 32))
      obtain ⟨pn, hpn⟩ : ∃ q : Nat, p.n.toNat = q := ⟨_, rfl⟩
      have hpI : p.n = (pn : Int) := by omega
      have hkk : p.kind = 1 ∨ p.kind = 2 ∨ p.kind = 3 := by
        rcases (unhide HG).1.cases with ⟨q, _⟩ | ⟨q, _⟩ | ⟨q, _⟩ <;> omega
      rcases hkk with hk1 | hk1 | hk1
      · have hKI := (unhide HI).keep (unhide HG) hk1
        rw [hpn] at hKI
        rw [hpI] at e1 HBA hp1 hp2
        rw [hk1] at e0 HBA
        have KX := hide hKI
        clear hk1 hKI hpk hdr hpn hpI HB HI
        by_cases hc1 : m < pn
        · have HE := hide ((unhide KX).1 hc1)
          have hmin : min (m : Int) (pn : Int) = (m : Int) := by omega
          have hcI : (m : Int) < (pn : Int) := by omega
          go_wp2_with fail
          go_ret2
          exact ⟨by rw [unhide HE]; push_cast; rfl, unhide HBA⟩
        · have HK := hide ((unhide KX).2 (by omega))
          have hmost := (unhide HK).most (unhide HTL)
          have hmin : min (m : Int) (pn : Int) = (pn : Int) := by omega
          have hcI : ¬ (pn : Int) < (pn : Int) := by omega
          go_wp2_with fail
          exact ⟨⟨k + 1, m - pn, t + pn, by omega, by simp, by simp; omega, by push_cast; rfl, by omega, hmost, HBA, HK⟩, by simp [intOf]; omega⟩
      · have hKI := (unhide HI).put (unhide HG) hk1
        rw [hpn] at hKI
        rw [hpI] at e1 HBA hp1 hp2
        rw [hk1] at e0 HBA
        have HK := hide hKI
        have hmost := hKI.most (unhide HTL)
        clear hk1 hKI hpk hdr hpn hpI HB HI
        by_cases hz : (0 : Int) < (m : Int)
        · rw [if_neg (by omega)] at HK hmost
          go_wp2_with fail
          exact ⟨⟨k + 1, m, t + pn, by omega, by simp, rfl, by push_cast; rfl, by omega, hmost, HBA, HK⟩, by simp [intOf]; omega⟩
        · cases ah with
          | true =>
            rw [if_neg (by simp)] at HK hmost
            go_wp2_with fail
            exact ⟨⟨k + 1, m, t + pn, by omega, by simp, by simp; omega, by push_cast; rfl, by omega, hmost, HBA, HK⟩, by simp [intOf]; omega⟩
          | false =>
            rw [if_pos (by constructor; omega; rfl)] at HK hmost
            go_wp2_with fail
            exact ⟨⟨k + 1, m, t, by omega, by simp, by simp; omega, rfl, by omega, by omega, HBA, HK⟩, by simp [intOf]; omega⟩
      · have hKI := (unhide HI).drop (unhide HG) hk1
        rw [hpn] at hKI
        rw [hpI] at e1 HBA hp1 hp2
        rw [hk1] at e0 HBA
        have KX := hide hKI
        clear hk1 hKI hpk hdr hpn hpI HB HI
        by_cases hc1 : m < pn
        · have HE := hide ((unhide KX).1 hc1)
          have hmin : min (m : Int) (pn : Int) = (m : Int) := by omega
          have hcI : (m : Int) < (pn : Int) := by omega
          go_wp2_with fail
          go_ret2
          exact ⟨by rw [unhide HE]; rfl, unhide HBA⟩
        · have HK := hide ((unhide KX).2 (by omega))
          have hmin : min (m : Int) (pn : Int) = (pn : Int) := by omega
          have hcI : ¬ (pn : Int) < (pn : Int) := by omega
          go_wp2_with fail
          exact ⟨⟨k + 1, m - pn, t, by omega, by simp, by simp; omega, rfl, by omega, htm, HBA, HK⟩, by simp [intOf]; omega⟩
    · obtain rfl : n = k := by omega
      have kI : ¬ (n : Int) < (n : Int) := by omega
      have hdn : l.drop n = [] := List.drop_of_length_le (by rw [unhide HN]; exact Nat.le_refl _)
      rw [hdn] at HI
      have HE := hide (unhide HI).ends
      clear hdn
      go_wp2_with fail
      go_ret2
      exact ⟨by rw [unhide HE]; rfl, unhide HB⟩
theorem cursor_at {w W : World} {a : Option Addr} {l : List Pt} {c n F T : Nat} (hU : UT W) (he : Edit W a l c) (hn : l.length = n) (hd : IsEd l F T) {at_ : Nat} (ha : at_ ≤ F) (ah : Bool) (hb : Below w.heap.size w W) :
    Calls Tryd.prog 48 #[.slice a n c, .int .i64 (at_ : Int), .bool ah] W fun r w' => r = .returned (.tuple #[.int .i64 (At.cur (atomsL l) at_ ah : Int), .int .i64 0]) ∧ Below w.heap.size w w' := by
  subst hn
  refine Calls.mono (cursor_ed hU he hd at_ ha ah) ?_
  rintro r w' ⟨rfl, h⟩
  exact ⟨rfl, hb.trans (h.mono hb.size)⟩
end Go.Proofs.YtidblnjohkadhaaDoor
