/- utf8.Valid over bytes in memory, at a text that is valid. -/
import Derived.Test.YtbnfilhilgjnfaaDoorQA
namespace Go.Proofs.YtbnfilhilgjnfaaDoor.Oc
set_option linter.unusedVariables false
set_option maxRecDepth 100000
set_option linter.unusedSimpArgs false
open Go.ChangeShapes Go.WideShapes Go.ChangeAt Go.RowKit Go.Shelf

/-- these bytes lie there -/
def Sl (w : World) (b off : Nat) (t : ByteArray) : Prop := ∀ i, i < t.size → w.cell? ⟨b, off + i, none⟩ = some (.int .u8 ((t.get! i).toNat : Int))
theorem getx (t : ByteArray) (k i : Nat) (h : k + i < t.size) : (t.extract k t.size)[i]'(by rw [Lib.ext_size]; omega) = t[k + i]'h := by
  simp [ByteArray.getElem_eq_getElem_data]
theorem get_ext (t : ByteArray) (k i : Nat) (h : k + i < t.size) : (t.extract k t.size).get! i = t.get! (k + i) := by
  rw [Utf8W.get!_of_lt _ i (by rw [Lib.ext_size]; omega), Utf8W.get!_of_lt t (k + i) h]
  exact getx t k i h
theorem Sl.ext {w : World} {b off : Nat} {t : ByteArray} (h : Sl w b off t) (k : Nat) : Sl w b (off + k) (t.extract k t.size) := by
  intro i hi
  rw [Lib.ext_size] at hi
  rw [get_ext t k i (by omega), Nat.add_assoc]
  exact h (k + i) (by omega)
theorem Sl.below {w w' : World} {b off : Nat} {t : ByteArray} (h : Sl w b off t) (hb : Below w.heap.size w w') : Sl w' b off t :=
  fun i hi => cell_keep hb (lt_of_cell (h i hi)) (h i hi)
theorem Sl.word {w : World} {b off cap : Nat} {t : ByteArray} (h : Sl w b off t) (h8 : 8 ≤ t.size) {n : Nat} (hn : 8 ≤ n) :
    Calls Tryd.prog 89 #[.slice (some ⟨b, off, none⟩) n cap] w fun e w' => e = .returned (.int .u64 (Lib.leNat [t.get! 0, t.get! 1, t.get! 2, t.get! 3, t.get! 4, t.get! 5, t.get! 6, t.get! 7])) ∧ ∃ q, w' = w.drewN q :=
  word_any b off n cap _ _ _ _ _ _ _ _ w hn (h 0 (by omega)) (h 1 (by omega)) (h 2 (by omega)) (h 3 (by omega)) (h 4 (by omega)) (h 5 (by omega)) (h 6 (by omega)) (h 7 (by omega))
/-- a slice of these bytes, somewhere -/
def At (w : World) (b : Nat) (a : Option Addr) (t : ByteArray) : Prop := 0 < t.size → ∃ off, a = some ⟨b, off, none⟩ ∧ Sl w b off t

theorem Sl.wordq {w wq : World} {b off : Nat} {t : ByteArray} (h : Sl w b off t) (hb : Below w.heap.size w wq) (h8 : 8 ≤ t.size) (n : Nat) (hn : 8 ≤ n) :
    ∃ A : Nat, A < 18446744073709551616 ∧ (A &&& 9259542123273814144 = 0 → Lib.Asc t 8) ∧ Hid (∀ q, Calls Tryd.prog 89 #[.slice (some ⟨b, off, none⟩) n n] (wq.drewN q) fun e w' => e = .returned (.int .u64 (A : Int)) ∧ ∃ m, w' = (wq.drewN q).drewN m) :=
  ⟨_, Lib.word_lt t, (Lib.word_asc t h8).1, hide fun q => (h.below (below_drewNv hb q)).word h8 hn⟩

set_option maxHeartbeats 16000000 in
set_option maxRecDepth 1000000 in
theorem valid_any (b : Nat) (a : Option Addr) (cap : Nat) (s : ByteArray) (w : World) (hA : At w b a s) (hc : s.size ≤ cap) (hs : s.size ≤ 1000000000) (hT : Lib.Utf8Tabs 2 3 w) (V : Bool) (hV : Lib.validD s.data.toList = V) :
    Calls Tryd.prog 80 #[.slice a s.size cap] w fun e w' => e = .returned (.bool V) ∧ Below w.heap.size w w' := by
  have mixed : Tryd.prog.follows Departure.mixedOrders = true := by kernel_rfl
  have hcz : (s.size : Int) ≤ (cap : Int) := by omega
  obtain ⟨sn, hsn⟩ : ∃ sn, s.size = sn := ⟨_, rfl⟩
  rw [hsn] at hc hcz hs ⊢
  go_enter Tryd.func80, Tryd.ntmps80
  go_wp2_with fail
  go_loopg [0] (sn + 1) (fun gk s0 wx => Below w.heap.size w wx ∧ ∃ (t : ByteArray) (a : Option Addr) (n : Nat), s0 = .slice a n n ∧ t.size = n ∧ At w b a t ∧ Lib.validD t.data.toList = V ∧ n < gk ∧ n ≤ 1000000000)
  case atStart => exact ⟨Below.refl _ _, s, a, sn, rfl, hsn, hA, hV, by omega, hs⟩
  case round =>
    clear hA hV hcz hc hs
    obtain ⟨hbw, t, a, n, rfl, htn, hA, hv, hg, hts⟩ := hrel
    have hTr := Utf8Tabs_below hT hbw
    by_cases h0 : 0 < n
    · obtain ⟨g', rfl⟩ : ∃ g', gk = g' + 1 := ⟨gk - 1, by omega⟩
      obtain ⟨off, rfl, St⟩ := hA (by omega)
      clear hA
      have h0z : (0 : Int) < (n : Int) := by omega
      have h1z : (1 : Int) ≤ (n : Int) := by omega
      obtain ⟨x0, hx0⟩ : ∃ x0, t.get! 0 = x0 := ⟨_, rfl⟩
      have hx0lt : x0.toNat < 256 := x0.toNat_lt
      have k0 := (St.below hbw) 0 (by omega)
      rw [Nat.add_zero, hx0] at k0
      by_cases hasc : x0.toNat < 128
      · have hascz : (x0.toNat : Int) < 128 := by omega
        have a1 : Lib.Asc t 1 := Lib.asc_one t (by omega) (by rw [hx0]; exact hasc)
        obtain ⟨t1, ht1⟩ : ∃ t1, t.extract 1 t.size = t1 := ⟨_, rfl⟩
        obtain ⟨o1, ho1⟩ : ∃ o1, off + 1 = o1 := ⟨_, rfl⟩
        obtain ⟨m1, hm1⟩ : ∃ m1, n - 1 = m1 := ⟨_, rfl⟩
        have St1 : Sl w b o1 t1 := by rw [← ht1, ← ho1]; exact St.ext 1
        have zt1 : t1.size = m1 := by rw [← ht1, Lib.ext_size]; omega
        have v1 : Lib.validD t1.data.toList = V := by rw [← ht1, Lib.valid_skip t 1 a1]; exact hv
        clear hTr hT hv a1
        by_cases c8 : 8 < m1
        · have n1 : ¬ (n = 1) := by omega
          have c8z : (8 : Int) < (m1 : Int) := by omega
          have d8z : (8 : Int) ≤ (m1 : Int) := by omega
          obtain ⟨A1, lA1, kA1, cA1⟩ := St1.wordq hbw (show 8 ≤ t1.size by omega) m1 (by omega)
          have hand1 : bits .and .u64 (A1 : Int) 9259542123273814144 = ((A1 &&& 9259542123273814144 : Nat) : Int) := u64_and_nat A1 9259542123273814144 lA1 (by omega)
          obtain ⟨Z1, hZ1⟩ : ∃ Z1, A1 &&& 9259542123273814144 = Z1 := ⟨_, rfl⟩
          rw [hZ1] at hand1 kA1
          have cW1 : Hid (Calls Tryd.prog 89 #[.slice (some ⟨b, o1, none⟩) m1 m1] wr fun e w' => e = .returned (.int .u64 (A1 : Int)) ∧ ∃ m, w' = wr.drewN m) := hide (unhide cA1 0)
          clear cA1
          by_cases hz1 : Z1 = 0
          · have hz1b : ((Z1 : Int) == 0) = true := by simp [hz1]
            have a8 : Lib.Asc t1 8 := kA1 hz1
            have m8 : ¬ (m1 = 8) := by omega
            obtain ⟨t2, ht2⟩ : ∃ t2, t1.extract 8 t1.size = t2 := ⟨_, rfl⟩
            obtain ⟨o2, ho2⟩ : ∃ o2, o1 + 8 = o2 := ⟨_, rfl⟩
            obtain ⟨m2, hm2⟩ : ∃ m2, m1 - 8 = m2 := ⟨_, rfl⟩
            have St2 : Sl w b o2 t2 := by rw [← ht2, ← ho2]; exact St1.ext 8
            have zt2 : t2.size = m2 := by rw [← ht2, Lib.ext_size]; omega
            have v2 : Lib.validD t2.data.toList = V := by rw [← ht2, Lib.valid_skip t1 8 a8]; exact v1
            clear kA1 a8 v1
            go_wp2_with (go_at_call 89; go_must (refine (unhide cW1).mono ?_; rintro e W1 ⟨rfl, q1, rfl⟩))
            have hb1 : Below w.heap.size w (wr.drewN q1) := below_drewNv hbw q1
            generalize wr.drewN q1 = wq at hb1 ⊢
            clear cW1 hbw k0
            by_cases c16 : 16 < m2
            · as_aux_lemma =>
                have c16z : (16 : Int) < (m2 : Int) := by omega
                have d16z : (16 : Int) ≤ (m2 : Int) := by omega
                have s8z : (8 : Int) ≤ (m2 : Int) := by omega
                have m28 : ¬ (m2 = 8) := by omega
                have m216 : ¬ (m2 = 16) := by omega
                obtain ⟨t2b, ht2b⟩ : ∃ t2b, t2.extract 8 t2.size = t2b := ⟨_, rfl⟩
                obtain ⟨o2b, ho2b⟩ : ∃ o2b, o2 + 8 = o2b := ⟨_, rfl⟩
                obtain ⟨m2b, hm2b⟩ : ∃ m2b, m2 - 8 = m2b := ⟨_, rfl⟩
                have St2b : Sl w b o2b t2b := by rw [← ht2b, ← ho2b]; exact St2.ext 8
                have zt2b : t2b.size = m2b := by rw [← ht2b, Lib.ext_size]; omega
                obtain ⟨A2, lA2, kA2, cA2⟩ := St2.wordq hb1 (show 8 ≤ t2.size by omega) m2 (by omega)
                obtain ⟨A3, lA3, kA3, cA3⟩ := St2b.wordq hb1 (show 8 ≤ t2b.size by omega) m2b (by omega)
                have hor2 : bits .or .u64 (A2 : Int) (A3 : Int) = ((A2 ||| A3 : Nat) : Int) := u64_or_nat A2 A3 lA2 lA3
                have lor2 : A2 ||| A3 < 18446744073709551616 := Nat.or_lt_two_pow (n := 64) lA2 lA3
                have hand2 : bits .and .u64 ((A2 ||| A3 : Nat) : Int) 9259542123273814144 = (((A2 ||| A3) &&& 9259542123273814144 : Nat) : Int) := u64_and_nat _ 9259542123273814144 lor2 (by omega)
                have k2 : (A2 ||| A3) &&& 9259542123273814144 = 0 → Lib.Asc t2 16 := fun h0' => by
                  obtain ⟨e1, e2⟩ := (Lib.or_mask A2 A3 _).1 h0'
                  exact Lib.asc_add t2 8 8 (kA2 e1) (by rw [ht2b]; exact kA3 e2)
                obtain ⟨O2, hO2⟩ : ∃ O2, A2 ||| A3 = O2 := ⟨_, rfl⟩
                rw [hO2] at hor2 hand2 k2
                obtain ⟨Z2, hZ2⟩ : ∃ Z2, O2 &&& 9259542123273814144 = Z2 := ⟨_, rfl⟩
                rw [hZ2] at hand2 k2
                clear kA2 kA3 lor2 hO2 hZ2
                by_cases hz2 : Z2 = 0
                · as_aux_lemma =>
                    have hz2b : ((Z2 : Int) == 0) = true := by simp [hz2]
                    have a16 := k2 hz2
                    obtain ⟨t3, ht3⟩ : ∃ t3, t2.extract 16 t2.size = t3 := ⟨_, rfl⟩
                    obtain ⟨o3, ho3⟩ : ∃ o3, o2 + 16 = o3 := ⟨_, rfl⟩
                    obtain ⟨m3, hm3⟩ : ∃ m3, m2 - 16 = m3 := ⟨_, rfl⟩
                    have St3 : Sl w b o3 t3 := by rw [← ht3, ← ho3]; exact St2.ext 16
                    have zt3 : t3.size = m3 := by rw [← ht3, Lib.ext_size]; omega
                    have v3 : Lib.validD t3.data.toList = V := by rw [← ht3, Lib.valid_skip t2 16 a16]; exact v2
                    clear k2 a16 v2
                    go_big_quiet_o (first | (go_at_call 89; with_reducible exact Calls.quiet_of (unhide cA2 _)) | (go_at_call 89; with_reducible exact Calls.quiet_of (unhide cA3 _)))
                    have hb2 : Below w.heap.size w (wq.drewN nq) := below_drewNv hb1 nq
                    generalize wq.drewN nq = wq2 at hb2 ⊢
                    clear cA2 cA3 hb1
                    go_wp2_with fail
                    go_loopg [0] (m3 + 1) (fun g2 s0 wx => Below w.heap.size w wx ∧ ∃ (u : ByteArray) (ou nu : Nat), s0 = .slice (some ⟨b, ou, none⟩) nu nu ∧ u.size = nu ∧ Sl w b ou u ∧ Lib.validD u.data.toList = V ∧ nu < g2 ∧ nu ≤ m3)
                    case atStart => exact ⟨hb2, t3, o3, m3, rfl, zt3, St3, v3, by omega, Nat.le_refl _⟩
                    case round =>
                      obtain ⟨hbu, u, ou, nu, rfl, zu, Su, vu, hgu, hut⟩ := hrel
                      by_cases c32 : 32 < nu
                      · obtain ⟨g3, rfl⟩ : ∃ g3, gk = g3 + 1 := ⟨gk - 1, by omega⟩
                        have c32z : (32 : Int) < (nu : Int) := by omega
                        have d32z : (32 : Int) ≤ (nu : Int) := by omega
                        have s8u : (8 : Int) ≤ (nu : Int) := by omega
                        have s16u : (16 : Int) ≤ (nu : Int) := by omega
                        have s24u : (24 : Int) ≤ (nu : Int) := by omega
                        have n8u : ¬ (nu = 8) := by omega
                        have n16u : ¬ (nu = 16) := by omega
                        have n24u : ¬ (nu = 24) := by omega
                        have n32u : ¬ (nu = 32) := by omega
                        obtain ⟨ub, hub⟩ : ∃ ub, u.extract 8 u.size = ub := ⟨_, rfl⟩
                        obtain ⟨oub, houb⟩ : ∃ oub, ou + 8 = oub := ⟨_, rfl⟩
                        obtain ⟨nub, hnub⟩ : ∃ nub, nu - 8 = nub := ⟨_, rfl⟩
                        have Sub : Sl w b oub ub := by rw [← hub, ← houb]; exact Su.ext 8
                        have zub : ub.size = nub := by rw [← hub, Lib.ext_size]; omega
                        obtain ⟨uc, huc⟩ : ∃ uc, u.extract 16 u.size = uc := ⟨_, rfl⟩
                        obtain ⟨ouc, houc⟩ : ∃ ouc, ou + 16 = ouc := ⟨_, rfl⟩
                        obtain ⟨nuc, hnuc⟩ : ∃ nuc, nu - 16 = nuc := ⟨_, rfl⟩
                        have Suc : Sl w b ouc uc := by rw [← huc, ← houc]; exact Su.ext 16
                        have zuc : uc.size = nuc := by rw [← huc, Lib.ext_size]; omega
                        obtain ⟨ud, hud⟩ : ∃ ud, u.extract 24 u.size = ud := ⟨_, rfl⟩
                        obtain ⟨oud, houd⟩ : ∃ oud, ou + 24 = oud := ⟨_, rfl⟩
                        obtain ⟨nud, hnud⟩ : ∃ nud, nu - 24 = nud := ⟨_, rfl⟩
                        have Sud : Sl w b oud ud := by rw [← hud, ← houd]; exact Su.ext 24
                        have zud : ud.size = nud := by rw [← hud, Lib.ext_size]; omega
                        obtain ⟨B0, lB0, kB0, cB0⟩ := Su.wordq hbu (show 8 ≤ u.size by omega) nu (by omega)
                        obtain ⟨B1, lB1, kB1, cB1⟩ := Sub.wordq hbu (show 8 ≤ ub.size by omega) nub (by omega)
                        obtain ⟨B2, lB2, kB2, cB2⟩ := Suc.wordq hbu (show 8 ≤ uc.size by omega) nuc (by omega)
                        obtain ⟨B3, lB3, kB3, cB3⟩ := Sud.wordq hbu (show 8 ≤ ud.size by omega) nud (by omega)
                        have ho1 : bits .or .u64 (B0 : Int) (B1 : Int) = ((B0 ||| B1 : Nat) : Int) := u64_or_nat B0 B1 lB0 lB1
                        have ho2 : bits .or .u64 (B2 : Int) (B3 : Int) = ((B2 ||| B3 : Nat) : Int) := u64_or_nat B2 B3 lB2 lB3
                        have lo1 : B0 ||| B1 < 18446744073709551616 := Nat.or_lt_two_pow (n := 64) lB0 lB1
                        have lo2 : B2 ||| B3 < 18446744073709551616 := Nat.or_lt_two_pow (n := 64) lB2 lB3
                        have ho3 : bits .or .u64 ((B0 ||| B1 : Nat) : Int) ((B2 ||| B3 : Nat) : Int) = (((B0 ||| B1) ||| (B2 ||| B3) : Nat) : Int) := u64_or_nat _ _ lo1 lo2
                        have lo3 : (B0 ||| B1) ||| (B2 ||| B3) < 18446744073709551616 := Nat.or_lt_two_pow (n := 64) lo1 lo2
                        have hand3 : bits .and .u64 (((B0 ||| B1) ||| (B2 ||| B3) : Nat) : Int) 9259542123273814144 = ((((B0 ||| B1) ||| (B2 ||| B3)) &&& 9259542123273814144 : Nat) : Int) := u64_and_nat _ 9259542123273814144 lo3 (by omega)
                        have k3 : ((B0 ||| B1) ||| (B2 ||| B3)) &&& 9259542123273814144 = 0 → Lib.Asc u 32 := fun h0' => by
                          obtain ⟨e01, e23⟩ := (Lib.or_mask _ _ _).1 h0'
                          obtain ⟨e0, e1⟩ := (Lib.or_mask _ _ _).1 e01
                          obtain ⟨e2, e3⟩ := (Lib.or_mask _ _ _).1 e23
                          have s16 : Lib.Asc u 16 := Lib.asc_add u 8 8 (kB0 e0) (by rw [hub]; exact kB1 e1)
                          have s24 : Lib.Asc u 24 := Lib.asc_add u 16 8 s16 (by rw [huc]; exact kB2 e2)
                          exact Lib.asc_add u 24 8 s24 (by rw [hud]; exact kB3 e3)
                        obtain ⟨P1, hP1⟩ : ∃ P1, B0 ||| B1 = P1 := ⟨_, rfl⟩
                        obtain ⟨P2, hP2⟩ : ∃ P2, B2 ||| B3 = P2 := ⟨_, rfl⟩
                        rw [hP1, hP2] at ho3 hand3 k3
                        rw [hP1] at ho1
                        rw [hP2] at ho2
                        obtain ⟨P3, hP3⟩ : ∃ P3, P1 ||| P2 = P3 := ⟨_, rfl⟩
                        rw [hP3] at ho3 hand3 k3
                        obtain ⟨Z3, hZ3⟩ : ∃ Z3, P3 &&& 9259542123273814144 = Z3 := ⟨_, rfl⟩
                        rw [hZ3] at hand3 k3
                        clear kB0 kB1 kB2 kB3 lo1 lo2 lo3 hP1 hP2 hP3 hZ3
                        by_cases hz3 : Z3 = 0
                        · as_aux_lemma =>
                            have hz3b : ((Z3 : Int) == 0) = true := by simp [hz3]
                            have a32 := k3 hz3
                            obtain ⟨u2, hu2⟩ : ∃ u2, u.extract 32 u.size = u2 := ⟨_, rfl⟩
                            obtain ⟨ou2, hou2⟩ : ∃ ou2, ou + 32 = ou2 := ⟨_, rfl⟩
                            obtain ⟨nu2, hnu2⟩ : ∃ nu2, nu - 32 = nu2 := ⟨_, rfl⟩
                            have Su2 : Sl w b ou2 u2 := by rw [← hu2, ← hou2]; exact Su.ext 32
                            have zu2 : u2.size = nu2 := by rw [← hu2, Lib.ext_size]; omega
                            have vu2 : Lib.validD u2.data.toList = V := by rw [← hu2, Lib.valid_skip u 32 a32]; exact vu
                            go_wp2_with fail
                            go_big_quiet_o (first | (go_at_call 89; with_reducible exact Calls.quiet_of (unhide cB0 _)) | (go_at_call 89; with_reducible exact Calls.quiet_of (unhide cB1 _)) | (go_at_call 89; with_reducible exact Calls.quiet_of (unhide cB2 _)) | (go_at_call 89; with_reducible exact Calls.quiet_of (unhide cB3 _)))
                            go_wp2_with fail
                            go_roundg g3
                            case measure => omega
                            case rel => exact ⟨below_drewNv hbu nq, u2, ou2, nu2, rfl, zu2, Su2, vu2, by omega, by omega⟩
                        · as_aux_lemma =>
                            have hz3b : ((Z3 : Int) == 0) = false := by simp; omega
                            go_wp2_with fail
                            go_big_quiet_o (first | (go_at_call 89; with_reducible exact Calls.quiet_of (unhide cB0 _)) | (go_at_call 89; with_reducible exact Calls.quiet_of (unhide cB1 _)) | (go_at_call 89; with_reducible exact Calls.quiet_of (unhide cB2 _)) | (go_at_call 89; with_reducible exact Calls.quiet_of (unhide cB3 _)))
                            go_wp2_with fail
                            go_roundg g'
                            case measure => omega
                            case rel => exact ⟨below_drewNv hbu nq, u, _, nu, rfl, zu, fun _ => ⟨ou, rfl, Su⟩, vu, by omega, by omega⟩
                      · have c32z : ¬ ((32 : Int) < (nu : Int)) := by omega
                        have c32b : decide ((32 : Int) < (nu : Int)) = false := decide_eq_false c32z
                        go_wp2_with fail
                        go_big_quiet_o (fail)
                        go_wp2_with fail
                        go_roundg g'
                        case measure => omega
                        case rel => exact ⟨below_drewNv hbu nq, u, _, nu, rfl, zu, fun _ => ⟨ou, rfl, Su⟩, vu, by omega, by omega⟩
                · as_aux_lemma =>
                    have hz2b : ((Z2 : Int) == 0) = false := by simp; omega
                    go_big_quiet_o (first | (go_at_call 89; with_reducible exact Calls.quiet_of (unhide cA2 _)) | (go_at_call 89; with_reducible exact Calls.quiet_of (unhide cA3 _)))
                    go_wp2_with fail
                    go_roundg g'
                    case measure => omega
                    case rel => exact ⟨below_drewNv hb1 nq, t2, _, m2, rfl, zt2, fun _ => ⟨o2, rfl, St2⟩, v2, by omega, by omega⟩
            · as_aux_lemma =>
                have c16z : ¬ ((16 : Int) < (m2 : Int)) := by omega
                have c16b : decide ((16 : Int) < (m2 : Int)) = false := decide_eq_false c16z
                go_big_quiet_o (fail)
                go_wp2_with fail
                go_roundg g'
                case measure => omega
                case rel => exact ⟨below_drewNv hb1 nq, t2, _, m2, rfl, zt2, fun _ => ⟨o2, rfl, St2⟩, v2, by omega, by omega⟩
          · have hz1b : ((Z1 : Int) == 0) = false := by simp; omega
            go_wp2_with (go_at_call 89; go_must (refine (unhide cW1).mono ?_; rintro e W1 ⟨rfl, q1, rfl⟩))
            go_roundg g'
            case measure => omega
            case rel => exact ⟨below_drewNv hbw q1, t1, _, m1, rfl, zt1, fun _ => ⟨o1, rfl, St1⟩, v1, by omega, by omega⟩
        · have c8z : ¬ ((8 : Int) < (m1 : Int)) := by omega
          by_cases n1 : n = 1
          · obtain rfl : m1 = 0 := by omega
            subst n1
            go_wp2_with fail
            go_roundg g'
            case measure => omega
            case rel => exact ⟨hbw, t1, _, 0, rfl, zt1, fun h => by omega, v1, by omega, by omega⟩
          · go_wp2_with fail
            go_roundg g'
            case measure => omega
            case rel => exact ⟨hbw, t1, _, m1, rfl, zt1, fun _ => ⟨o1, rfl, St1⟩, v1, by omega, by omega⟩
      · have hge : 128 ≤ x0.toNat := by omega
        have hascz : ¬ ((x0.toNat : Int) < 128) := by omega
        obtain ⟨x1, hx1⟩ : ∃ x1, t.get! 1 = x1 := ⟨_, rfl⟩
        obtain ⟨x2, hx2⟩ : ∃ x2, t.get! 2 = x2 := ⟨_, rfl⟩
        obtain ⟨x3, hx3⟩ : ∃ x3, t.get! 3 = x3 := ⟨_, rfl⟩
        have l1 := x1.toNat_lt; have l2 := x2.toNat_lt; have l3 := x3.toNat_lt
        have hne : t.data.toList ≠ [] := fun h => by rw [Lib.size_eq, h] at htn; simp at htn; omega
        have hlead := Lib.validD_lead t.data.toList hne (by rw [Lib.getD_get!', hx0]; exact hge)
        rw [Lib.getD_get!', Lib.getD_get!', Lib.getD_get!', Lib.getD_get!', hx0, hx1, hx2, hx3, ← Lib.size_eq, hv, htn] at hlead
        have hc0 := hTr.1 x0.toNat hx0lt
        have hXlt : Lib.firstT x0.toNat < 256 := by rcases Lib.firstT_cases x0.toNat with h | h | h | h | h | h | h | h | h <;> omega
        obtain ⟨X, hX⟩ : ∃ X, Lib.firstT x0.toNat = X := ⟨_, rfl⟩
        rw [hX] at hc0 hXlt hlead
        have h7 := and7 ⟨X, hXlt⟩
        simp only at h7
        have ha0 : wr.cell? ⟨3, X / 16 * 2, none⟩ = some (.int .u8 (Lib.accLo (X / 16))) := by rw [Nat.mul_comm]; exact (hTr.2 (X / 16) (by omega)).1
        have ha1 : wr.cell? ⟨3, X / 16 * 2 + 1, none⟩ = some (.int .u8 (Lib.accHi (X / 16))) := by rw [Nat.mul_comm]; exact (hTr.2 (X / 16) (by omega)).2
        obtain ⟨LO, hLO⟩ : ∃ LO, Lib.accLo (X / 16) = LO := ⟨_, rfl⟩
        obtain ⟨HI, hHI⟩ : ∃ HI, Lib.accHi (X / 16) = HI := ⟨_, rfl⟩
        rw [hLO] at ha0 hlead
        rw [hHI] at ha1 hlead
        obtain ⟨SZ, hSZ⟩ : ∃ SZ, X % 8 = SZ := ⟨_, rfl⟩
        rw [hSZ] at hlead
        clear hTr hT hX hv hLO hHI hne
        by_cases s2 : SZ = 2
        · as_aux_lemma =>
            subst s2
            have hSZz : (X : Int) % 8 = 2 := by omega
            simp only [Lib.checkN, Nat.reduceEqDiff, if_true, if_false] at hlead
            by_cases hb : n < 2 ∨ x1.toNat < LO ∨ HI < x1.toNat
            · rw [if_pos hb] at hlead
              subst hlead
              by_cases p0 : n < 2
              · have t0z : (n : Int) < 2 := by omega
                have t0d : decide ((n : Int) < 2) = true := decide_eq_true t0z
                have t0e : decide (n < 2) = true := decide_eq_true p0
                go_wp2_with fail
                have hB : Below w.heap.size w (wr.alloc (.cells #[.int .u8 LO, .int .u8 HI] 119)) := hbw.alloc hbw.size _
                have w0 : (wr.alloc (.cells #[.int .u8 LO, .int .u8 HI] 119)).cell? ⟨wr.heap.size, 0, none⟩ = some (.int .u8 LO) := by simp [go_sem]
                have w1 : (wr.alloc (.cells #[.int .u8 LO, .int .u8 HI] 119)).cell? ⟨wr.heap.size, 1, none⟩ = some (.int .u8 HI) := by simp [go_sem]
                generalize (wr.alloc (.cells #[.int .u8 LO, .int .u8 HI] 119)) = wv at *
                go_big_quiet_o (fail)
                go_wp2_with fail
                go_ret
                exact ⟨rfl, below_drewNv hB nq⟩
              have q0n : ¬ (n < 2) := by omega
              have q0z : ¬ ((n : Int) < 2) := by omega
              have d0z : decide ((n : Int) < 2) = false := decide_eq_false q0z
              have d0n : decide (n < 2) = false := decide_eq_false q0n
              have q0y : (2 : Int) ≤ (n : Int) := by omega
              have hz1 : (1 : Int) < (n : Int) := by omega
              have hp1 : 1 < n := by omega
              by_cases p1 : x1.toNat < LO
              · have t1z : (x1.toNat : Int) < (LO : Int) := by omega
                have t1d : decide ((x1.toNat : Int) < (LO : Int)) = true := decide_eq_true t1z
                have t1e : decide (x1.toNat < LO) = true := decide_eq_true p1
                go_wp2_with fail
                have hB : Below w.heap.size w (wr.alloc (.cells #[.int .u8 LO, .int .u8 HI] 119)) := hbw.alloc hbw.size _
                have w0 : (wr.alloc (.cells #[.int .u8 LO, .int .u8 HI] 119)).cell? ⟨wr.heap.size, 0, none⟩ = some (.int .u8 LO) := by simp [go_sem]
                have w1 : (wr.alloc (.cells #[.int .u8 LO, .int .u8 HI] 119)).cell? ⟨wr.heap.size, 1, none⟩ = some (.int .u8 HI) := by simp [go_sem]
                have y1 := (St.below hB) 1 (by omega)
                rw [hx1] at y1
                generalize (wr.alloc (.cells #[.int .u8 LO, .int .u8 HI] 119)) = wv at *
                go_big_quiet_o (fail)
                go_wp2_with fail
                go_ret
                exact ⟨rfl, below_drewNv hB nq⟩
              have q1n : ¬ (x1.toNat < LO) := by omega
              have q1z : ¬ ((x1.toNat : Int) < (LO : Int)) := by omega
              have q1d : decide ((x1.toNat : Int) < (LO : Int)) = false := decide_eq_false q1z
              have p2 : HI < x1.toNat := by omega
              have t2z : (HI : Int) < (x1.toNat : Int) := by omega
              have t2d : decide ((HI : Int) < (x1.toNat : Int)) = true := decide_eq_true t2z
              have t2e : decide (HI < x1.toNat) = true := decide_eq_true p2
              go_wp2_with fail
              have hB : Below w.heap.size w (wr.alloc (.cells #[.int .u8 LO, .int .u8 HI] 119)) := hbw.alloc hbw.size _
              have w0 : (wr.alloc (.cells #[.int .u8 LO, .int .u8 HI] 119)).cell? ⟨wr.heap.size, 0, none⟩ = some (.int .u8 LO) := by simp [go_sem]
              have w1 : (wr.alloc (.cells #[.int .u8 LO, .int .u8 HI] 119)).cell? ⟨wr.heap.size, 1, none⟩ = some (.int .u8 HI) := by simp [go_sem]
              have y1 := (St.below hB) 1 (by omega)
              rw [hx1] at y1
              generalize (wr.alloc (.cells #[.int .u8 LO, .int .u8 HI] 119)) = wv at *
              go_big_quiet_o (fail)
              go_wp2_with fail
              go_ret
              exact ⟨rfl, below_drewNv hB nq⟩
            rw [if_neg hb] at hlead
            have q0n : ¬ (n < 2) := by omega
            have q0z : ¬ ((n : Int) < 2) := by omega
            have d0z : decide ((n : Int) < 2) = false := decide_eq_false q0z
            have d0n : decide (n < 2) = false := decide_eq_false q0n
            have q0y : (2 : Int) ≤ (n : Int) := by omega
            have q1n : ¬ (x1.toNat < LO) := by omega
            have q2n : ¬ (HI < x1.toNat) := by omega
            have q1z : ¬ ((x1.toNat : Int) < (LO : Int)) := by omega
            have q2z : ¬ ((HI : Int) < (x1.toNat : Int)) := by omega
            have hz1 : (1 : Int) < (n : Int) := by omega
            have hp1 : 1 < n := by omega
            obtain ⟨tk, htk⟩ : ∃ tk, t.extract 2 t.size = tk := ⟨_, rfl⟩
            obtain ⟨ok, hok⟩ : ∃ ok, off + 2 = ok := ⟨_, rfl⟩
            obtain ⟨mk, hmk⟩ : ∃ mk, n - 2 = mk := ⟨_, rfl⟩
            have Stk : Sl w b ok tk := by rw [← htk, ← hok]; exact St.ext 2
            have ztk : tk.size = mk := by rw [← htk, Lib.ext_size]; omega
            have vk : Lib.validD tk.data.toList = V := by rw [← htk, Lib.ext_list]; exact hlead.symm
            clear hlead
            go_wp2_with fail
            have hB : Below w.heap.size w (wr.alloc (.cells #[.int .u8 LO, .int .u8 HI] 119)) := hbw.alloc hbw.size _
            have w0 : (wr.alloc (.cells #[.int .u8 LO, .int .u8 HI] 119)).cell? ⟨wr.heap.size, 0, none⟩ = some (.int .u8 LO) := by simp [go_sem]
            have w1 : (wr.alloc (.cells #[.int .u8 LO, .int .u8 HI] 119)).cell? ⟨wr.heap.size, 1, none⟩ = some (.int .u8 HI) := by simp [go_sem]
            have y1 := (St.below hB) 1 (by omega)
            rw [hx1] at y1
            generalize (wr.alloc (.cells #[.int .u8 LO, .int .u8 HI] 119)) = wv at *
            by_cases nk : n = 2
            · obtain rfl : mk = 0 := by omega
              subst nk
              go_big_quiet_o (fail)
              go_wp2_with fail
              go_roundg g'
              case measure => omega
              case rel => exact ⟨below_drewNv hB nq, tk, _, 0, rfl, ztk, fun h => by omega, vk, by omega, by omega⟩
            · go_big_quiet_o (fail)
              go_wp2_with fail
              go_roundg g'
              case measure => omega
              case rel => exact ⟨below_drewNv hB nq, tk, _, mk, rfl, ztk, fun _ => ⟨ok, rfl, Stk⟩, vk, by omega, by omega⟩
        by_cases s3 : SZ = 3
        · as_aux_lemma =>
            subst s3
            have hSZz : (X : Int) % 8 = 3 := by omega
            simp only [Lib.checkN, Nat.reduceEqDiff, if_true, if_false] at hlead
            by_cases hb : n < 3 ∨ x1.toNat < LO ∨ HI < x1.toNat ∨ x2.toNat < 128 ∨ 191 < x2.toNat
            · rw [if_pos hb] at hlead
              subst hlead
              by_cases p0 : n < 3
              · have t0z : (n : Int) < 3 := by omega
                have t0d : decide ((n : Int) < 3) = true := decide_eq_true t0z
                have t0e : decide (n < 3) = true := decide_eq_true p0
                go_wp2_with fail
                have hB : Below w.heap.size w (wr.alloc (.cells #[.int .u8 LO, .int .u8 HI] 119)) := hbw.alloc hbw.size _
                have w0 : (wr.alloc (.cells #[.int .u8 LO, .int .u8 HI] 119)).cell? ⟨wr.heap.size, 0, none⟩ = some (.int .u8 LO) := by simp [go_sem]
                have w1 : (wr.alloc (.cells #[.int .u8 LO, .int .u8 HI] 119)).cell? ⟨wr.heap.size, 1, none⟩ = some (.int .u8 HI) := by simp [go_sem]
                generalize (wr.alloc (.cells #[.int .u8 LO, .int .u8 HI] 119)) = wv at *
                go_big_quiet_o (fail)
                go_wp2_with fail
                go_ret
                exact ⟨rfl, below_drewNv hB nq⟩
              have q0n : ¬ (n < 3) := by omega
              have q0z : ¬ ((n : Int) < 3) := by omega
              have d0z : decide ((n : Int) < 3) = false := decide_eq_false q0z
              have d0n : decide (n < 3) = false := decide_eq_false q0n
              have q0y : (3 : Int) ≤ (n : Int) := by omega
              have hz1 : (1 : Int) < (n : Int) := by omega
              have hp1 : 1 < n := by omega
              have hz2 : (2 : Int) < (n : Int) := by omega
              have hp2 : 2 < n := by omega
              by_cases p1 : x1.toNat < LO
              · have t1z : (x1.toNat : Int) < (LO : Int) := by omega
                have t1d : decide ((x1.toNat : Int) < (LO : Int)) = true := decide_eq_true t1z
                have t1e : decide (x1.toNat < LO) = true := decide_eq_true p1
                go_wp2_with fail
                have hB : Below w.heap.size w (wr.alloc (.cells #[.int .u8 LO, .int .u8 HI] 119)) := hbw.alloc hbw.size _
                have w0 : (wr.alloc (.cells #[.int .u8 LO, .int .u8 HI] 119)).cell? ⟨wr.heap.size, 0, none⟩ = some (.int .u8 LO) := by simp [go_sem]
                have w1 : (wr.alloc (.cells #[.int .u8 LO, .int .u8 HI] 119)).cell? ⟨wr.heap.size, 1, none⟩ = some (.int .u8 HI) := by simp [go_sem]
                have y1 := (St.below hB) 1 (by omega)
                rw [hx1] at y1
                have y2 := (St.below hB) 2 (by omega)
                rw [hx2] at y2
                generalize (wr.alloc (.cells #[.int .u8 LO, .int .u8 HI] 119)) = wv at *
                go_big_quiet_o (fail)
                go_wp2_with fail
                go_ret
                exact ⟨rfl, below_drewNv hB nq⟩
              have q1n : ¬ (x1.toNat < LO) := by omega
              have q1z : ¬ ((x1.toNat : Int) < (LO : Int)) := by omega
              have q1d : decide ((x1.toNat : Int) < (LO : Int)) = false := decide_eq_false q1z
              by_cases p2 : HI < x1.toNat
              · have t2z : (HI : Int) < (x1.toNat : Int) := by omega
                have t2d : decide ((HI : Int) < (x1.toNat : Int)) = true := decide_eq_true t2z
                have t2e : decide (HI < x1.toNat) = true := decide_eq_true p2
                go_wp2_with fail
                have hB : Below w.heap.size w (wr.alloc (.cells #[.int .u8 LO, .int .u8 HI] 119)) := hbw.alloc hbw.size _
                have w0 : (wr.alloc (.cells #[.int .u8 LO, .int .u8 HI] 119)).cell? ⟨wr.heap.size, 0, none⟩ = some (.int .u8 LO) := by simp [go_sem]
                have w1 : (wr.alloc (.cells #[.int .u8 LO, .int .u8 HI] 119)).cell? ⟨wr.heap.size, 1, none⟩ = some (.int .u8 HI) := by simp [go_sem]
                have y1 := (St.below hB) 1 (by omega)
                rw [hx1] at y1
                have y2 := (St.below hB) 2 (by omega)
                rw [hx2] at y2
                generalize (wr.alloc (.cells #[.int .u8 LO, .int .u8 HI] 119)) = wv at *
                go_big_quiet_o (fail)
                go_wp2_with fail
                go_ret
                exact ⟨rfl, below_drewNv hB nq⟩
              have q2n : ¬ (HI < x1.toNat) := by omega
              have q2z : ¬ ((HI : Int) < (x1.toNat : Int)) := by omega
              have q2d : decide ((HI : Int) < (x1.toNat : Int)) = false := decide_eq_false q2z
              by_cases p3 : x2.toNat < 128
              · have t3z : (x2.toNat : Int) < 128 := by omega
                have t3d : decide ((x2.toNat : Int) < 128) = true := decide_eq_true t3z
                have t3e : decide (x2.toNat < 128) = true := decide_eq_true p3
                go_wp2_with fail
                have hB : Below w.heap.size w (wr.alloc (.cells #[.int .u8 LO, .int .u8 HI] 119)) := hbw.alloc hbw.size _
                have w0 : (wr.alloc (.cells #[.int .u8 LO, .int .u8 HI] 119)).cell? ⟨wr.heap.size, 0, none⟩ = some (.int .u8 LO) := by simp [go_sem]
                have w1 : (wr.alloc (.cells #[.int .u8 LO, .int .u8 HI] 119)).cell? ⟨wr.heap.size, 1, none⟩ = some (.int .u8 HI) := by simp [go_sem]
                have y1 := (St.below hB) 1 (by omega)
                rw [hx1] at y1
                have y2 := (St.below hB) 2 (by omega)
                rw [hx2] at y2
                generalize (wr.alloc (.cells #[.int .u8 LO, .int .u8 HI] 119)) = wv at *
                go_big_quiet_o (fail)
                go_wp2_with fail
                go_ret
                exact ⟨rfl, below_drewNv hB nq⟩
              have q3n : ¬ (x2.toNat < 128) := by omega
              have q3z : ¬ ((x2.toNat : Int) < 128) := by omega
              have q3d : decide ((x2.toNat : Int) < 128) = false := decide_eq_false q3z
              have p4 : 191 < x2.toNat := by omega
              have t4z : (191 : Int) < (x2.toNat : Int) := by omega
              have t4d : decide ((191 : Int) < (x2.toNat : Int)) = true := decide_eq_true t4z
              have t4e : decide (191 < x2.toNat) = true := decide_eq_true p4
              go_wp2_with fail
              have hB : Below w.heap.size w (wr.alloc (.cells #[.int .u8 LO, .int .u8 HI] 119)) := hbw.alloc hbw.size _
              have w0 : (wr.alloc (.cells #[.int .u8 LO, .int .u8 HI] 119)).cell? ⟨wr.heap.size, 0, none⟩ = some (.int .u8 LO) := by simp [go_sem]
              have w1 : (wr.alloc (.cells #[.int .u8 LO, .int .u8 HI] 119)).cell? ⟨wr.heap.size, 1, none⟩ = some (.int .u8 HI) := by simp [go_sem]
              have y1 := (St.below hB) 1 (by omega)
              rw [hx1] at y1
              have y2 := (St.below hB) 2 (by omega)
              rw [hx2] at y2
              generalize (wr.alloc (.cells #[.int .u8 LO, .int .u8 HI] 119)) = wv at *
              go_big_quiet_o (fail)
              go_wp2_with fail
              go_ret
              exact ⟨rfl, below_drewNv hB nq⟩
            rw [if_neg hb] at hlead
            have q0n : ¬ (n < 3) := by omega
            have q0z : ¬ ((n : Int) < 3) := by omega
            have d0z : decide ((n : Int) < 3) = false := decide_eq_false q0z
            have d0n : decide (n < 3) = false := decide_eq_false q0n
            have q0y : (3 : Int) ≤ (n : Int) := by omega
            have q1n : ¬ (x1.toNat < LO) := by omega
            have q2n : ¬ (HI < x1.toNat) := by omega
            have q1z : ¬ ((x1.toNat : Int) < (LO : Int)) := by omega
            have q2z : ¬ ((HI : Int) < (x1.toNat : Int)) := by omega
            have hz1 : (1 : Int) < (n : Int) := by omega
            have hp1 : 1 < n := by omega
            have hz2 : (2 : Int) < (n : Int) := by omega
            have q2c : ¬ (x2.toNat < 128) := by omega
            have q2d : ¬ (191 < x2.toNat) := by omega
            have hp2 : 2 < n := by omega
            have q2a : ¬ ((x2.toNat : Int) < 128) := by omega
            have q2b : ¬ ((191 : Int) < (x2.toNat : Int)) := by omega
            have d2a : decide ((x2.toNat : Int) < 128) = false := decide_eq_false q2a
            have d2b : decide ((191 : Int) < (x2.toNat : Int)) = false := decide_eq_false q2b
            obtain ⟨tk, htk⟩ : ∃ tk, t.extract 3 t.size = tk := ⟨_, rfl⟩
            obtain ⟨ok, hok⟩ : ∃ ok, off + 3 = ok := ⟨_, rfl⟩
            obtain ⟨mk, hmk⟩ : ∃ mk, n - 3 = mk := ⟨_, rfl⟩
            have Stk : Sl w b ok tk := by rw [← htk, ← hok]; exact St.ext 3
            have ztk : tk.size = mk := by rw [← htk, Lib.ext_size]; omega
            have vk : Lib.validD tk.data.toList = V := by rw [← htk, Lib.ext_list]; exact hlead.symm
            clear hlead
            go_wp2_with fail
            have hB : Below w.heap.size w (wr.alloc (.cells #[.int .u8 LO, .int .u8 HI] 119)) := hbw.alloc hbw.size _
            have w0 : (wr.alloc (.cells #[.int .u8 LO, .int .u8 HI] 119)).cell? ⟨wr.heap.size, 0, none⟩ = some (.int .u8 LO) := by simp [go_sem]
            have w1 : (wr.alloc (.cells #[.int .u8 LO, .int .u8 HI] 119)).cell? ⟨wr.heap.size, 1, none⟩ = some (.int .u8 HI) := by simp [go_sem]
            have y1 := (St.below hB) 1 (by omega)
            rw [hx1] at y1
            have y2 := (St.below hB) 2 (by omega)
            rw [hx2] at y2
            generalize (wr.alloc (.cells #[.int .u8 LO, .int .u8 HI] 119)) = wv at *
            by_cases nk : n = 3
            · obtain rfl : mk = 0 := by omega
              subst nk
              go_big_quiet_o (fail)
              go_wp2_with fail
              go_roundg g'
              case measure => omega
              case rel => exact ⟨below_drewNv hB nq, tk, _, 0, rfl, ztk, fun h => by omega, vk, by omega, by omega⟩
            · go_big_quiet_o (fail)
              go_wp2_with fail
              go_roundg g'
              case measure => omega
              case rel => exact ⟨below_drewNv hB nq, tk, _, mk, rfl, ztk, fun _ => ⟨ok, rfl, Stk⟩, vk, by omega, by omega⟩
        by_cases s4 : SZ = 4
        · as_aux_lemma =>
            subst s4
            have hSZz : (X : Int) % 8 = 4 := by omega
            simp only [Lib.checkN, Nat.reduceEqDiff, if_true, if_false] at hlead
            by_cases hb : n < 4 ∨ x1.toNat < LO ∨ HI < x1.toNat ∨ x2.toNat < 128 ∨ 191 < x2.toNat ∨ x3.toNat < 128 ∨ 191 < x3.toNat
            · rw [if_pos hb] at hlead
              subst hlead
              by_cases p0 : n < 4
              · have t0z : (n : Int) < 4 := by omega
                have t0d : decide ((n : Int) < 4) = true := decide_eq_true t0z
                have t0e : decide (n < 4) = true := decide_eq_true p0
                go_wp2_with fail
                have hB : Below w.heap.size w (wr.alloc (.cells #[.int .u8 LO, .int .u8 HI] 119)) := hbw.alloc hbw.size _
                have w0 : (wr.alloc (.cells #[.int .u8 LO, .int .u8 HI] 119)).cell? ⟨wr.heap.size, 0, none⟩ = some (.int .u8 LO) := by simp [go_sem]
                have w1 : (wr.alloc (.cells #[.int .u8 LO, .int .u8 HI] 119)).cell? ⟨wr.heap.size, 1, none⟩ = some (.int .u8 HI) := by simp [go_sem]
                generalize (wr.alloc (.cells #[.int .u8 LO, .int .u8 HI] 119)) = wv at *
                go_big_quiet_o (fail)
                go_wp2_with fail
                go_ret
                exact ⟨rfl, below_drewNv hB nq⟩
              have q0n : ¬ (n < 4) := by omega
              have q0z : ¬ ((n : Int) < 4) := by omega
              have d0z : decide ((n : Int) < 4) = false := decide_eq_false q0z
              have d0n : decide (n < 4) = false := decide_eq_false q0n
              have q0y : (4 : Int) ≤ (n : Int) := by omega
              have hz1 : (1 : Int) < (n : Int) := by omega
              have hp1 : 1 < n := by omega
              have hz2 : (2 : Int) < (n : Int) := by omega
              have hp2 : 2 < n := by omega
              have hz3 : (3 : Int) < (n : Int) := by omega
              have hp3 : 3 < n := by omega
              by_cases p1 : x1.toNat < LO
              · have t1z : (x1.toNat : Int) < (LO : Int) := by omega
                have t1d : decide ((x1.toNat : Int) < (LO : Int)) = true := decide_eq_true t1z
                have t1e : decide (x1.toNat < LO) = true := decide_eq_true p1
                go_wp2_with fail
                have hB : Below w.heap.size w (wr.alloc (.cells #[.int .u8 LO, .int .u8 HI] 119)) := hbw.alloc hbw.size _
                have w0 : (wr.alloc (.cells #[.int .u8 LO, .int .u8 HI] 119)).cell? ⟨wr.heap.size, 0, none⟩ = some (.int .u8 LO) := by simp [go_sem]
                have w1 : (wr.alloc (.cells #[.int .u8 LO, .int .u8 HI] 119)).cell? ⟨wr.heap.size, 1, none⟩ = some (.int .u8 HI) := by simp [go_sem]
                have y1 := (St.below hB) 1 (by omega)
                rw [hx1] at y1
                have y2 := (St.below hB) 2 (by omega)
                rw [hx2] at y2
                have y3 := (St.below hB) 3 (by omega)
                rw [hx3] at y3
                generalize (wr.alloc (.cells #[.int .u8 LO, .int .u8 HI] 119)) = wv at *
                go_big_quiet_o (fail)
                go_wp2_with fail
                go_ret
                exact ⟨rfl, below_drewNv hB nq⟩
              have q1n : ¬ (x1.toNat < LO) := by omega
              have q1z : ¬ ((x1.toNat : Int) < (LO : Int)) := by omega
              have q1d : decide ((x1.toNat : Int) < (LO : Int)) = false := decide_eq_false q1z
              by_cases p2 : HI < x1.toNat
              · have t2z : (HI : Int) < (x1.toNat : Int) := by omega
                have t2d : decide ((HI : Int) < (x1.toNat : Int)) = true := decide_eq_true t2z
                have t2e : decide (HI < x1.toNat) = true := decide_eq_true p2
                go_wp2_with fail
                have hB : Below w.heap.size w (wr.alloc (.cells #[.int .u8 LO, .int .u8 HI] 119)) := hbw.alloc hbw.size _
                have w0 : (wr.alloc (.cells #[.int .u8 LO, .int .u8 HI] 119)).cell? ⟨wr.heap.size, 0, none⟩ = some (.int .u8 LO) := by simp [go_sem]
                have w1 : (wr.alloc (.cells #[.int .u8 LO, .int .u8 HI] 119)).cell? ⟨wr.heap.size, 1, none⟩ = some (.int .u8 HI) := by simp [go_sem]
                have y1 := (St.below hB) 1 (by omega)
                rw [hx1] at y1
                have y2 := (St.below hB) 2 (by omega)
                rw [hx2] at y2
                have y3 := (St.below hB) 3 (by omega)
                rw [hx3] at y3
                generalize (wr.alloc (.cells #[.int .u8 LO, .int .u8 HI] 119)) = wv at *
                go_big_quiet_o (fail)
                go_wp2_with fail
                go_ret
                exact ⟨rfl, below_drewNv hB nq⟩
              have q2n : ¬ (HI < x1.toNat) := by omega
              have q2z : ¬ ((HI : Int) < (x1.toNat : Int)) := by omega
              have q2d : decide ((HI : Int) < (x1.toNat : Int)) = false := decide_eq_false q2z
              by_cases p3 : x2.toNat < 128
              · have t3z : (x2.toNat : Int) < 128 := by omega
                have t3d : decide ((x2.toNat : Int) < 128) = true := decide_eq_true t3z
                have t3e : decide (x2.toNat < 128) = true := decide_eq_true p3
                go_wp2_with fail
                have hB : Below w.heap.size w (wr.alloc (.cells #[.int .u8 LO, .int .u8 HI] 119)) := hbw.alloc hbw.size _
                have w0 : (wr.alloc (.cells #[.int .u8 LO, .int .u8 HI] 119)).cell? ⟨wr.heap.size, 0, none⟩ = some (.int .u8 LO) := by simp [go_sem]
                have w1 : (wr.alloc (.cells #[.int .u8 LO, .int .u8 HI] 119)).cell? ⟨wr.heap.size, 1, none⟩ = some (.int .u8 HI) := by simp [go_sem]
                have y1 := (St.below hB) 1 (by omega)
                rw [hx1] at y1
                have y2 := (St.below hB) 2 (by omega)
                rw [hx2] at y2
                have y3 := (St.below hB) 3 (by omega)
                rw [hx3] at y3
                generalize (wr.alloc (.cells #[.int .u8 LO, .int .u8 HI] 119)) = wv at *
                go_big_quiet_o (fail)
                go_wp2_with fail
                go_ret
                exact ⟨rfl, below_drewNv hB nq⟩
              have q3n : ¬ (x2.toNat < 128) := by omega
              have q3z : ¬ ((x2.toNat : Int) < 128) := by omega
              have q3d : decide ((x2.toNat : Int) < 128) = false := decide_eq_false q3z
              by_cases p4 : 191 < x2.toNat
              · have t4z : (191 : Int) < (x2.toNat : Int) := by omega
                have t4d : decide ((191 : Int) < (x2.toNat : Int)) = true := decide_eq_true t4z
                have t4e : decide (191 < x2.toNat) = true := decide_eq_true p4
                go_wp2_with fail
                have hB : Below w.heap.size w (wr.alloc (.cells #[.int .u8 LO, .int .u8 HI] 119)) := hbw.alloc hbw.size _
                have w0 : (wr.alloc (.cells #[.int .u8 LO, .int .u8 HI] 119)).cell? ⟨wr.heap.size, 0, none⟩ = some (.int .u8 LO) := by simp [go_sem]
                have w1 : (wr.alloc (.cells #[.int .u8 LO, .int .u8 HI] 119)).cell? ⟨wr.heap.size, 1, none⟩ = some (.int .u8 HI) := by simp [go_sem]
                have y1 := (St.below hB) 1 (by omega)
                rw [hx1] at y1
                have y2 := (St.below hB) 2 (by omega)
                rw [hx2] at y2
                have y3 := (St.below hB) 3 (by omega)
                rw [hx3] at y3
                generalize (wr.alloc (.cells #[.int .u8 LO, .int .u8 HI] 119)) = wv at *
                go_big_quiet_o (fail)
                go_wp2_with fail
                go_ret
                exact ⟨rfl, below_drewNv hB nq⟩
              have q4n : ¬ (191 < x2.toNat) := by omega
              have q4z : ¬ ((191 : Int) < (x2.toNat : Int)) := by omega
              have q4d : decide ((191 : Int) < (x2.toNat : Int)) = false := decide_eq_false q4z
              by_cases p5 : x3.toNat < 128
              · have t5z : (x3.toNat : Int) < 128 := by omega
                have t5d : decide ((x3.toNat : Int) < 128) = true := decide_eq_true t5z
                have t5e : decide (x3.toNat < 128) = true := decide_eq_true p5
                go_wp2_with fail
                have hB : Below w.heap.size w (wr.alloc (.cells #[.int .u8 LO, .int .u8 HI] 119)) := hbw.alloc hbw.size _
                have w0 : (wr.alloc (.cells #[.int .u8 LO, .int .u8 HI] 119)).cell? ⟨wr.heap.size, 0, none⟩ = some (.int .u8 LO) := by simp [go_sem]
                have w1 : (wr.alloc (.cells #[.int .u8 LO, .int .u8 HI] 119)).cell? ⟨wr.heap.size, 1, none⟩ = some (.int .u8 HI) := by simp [go_sem]
                have y1 := (St.below hB) 1 (by omega)
                rw [hx1] at y1
                have y2 := (St.below hB) 2 (by omega)
                rw [hx2] at y2
                have y3 := (St.below hB) 3 (by omega)
                rw [hx3] at y3
                generalize (wr.alloc (.cells #[.int .u8 LO, .int .u8 HI] 119)) = wv at *
                go_big_quiet_o (fail)
                go_wp2_with fail
                go_ret
                exact ⟨rfl, below_drewNv hB nq⟩
              have q5n : ¬ (x3.toNat < 128) := by omega
              have q5z : ¬ ((x3.toNat : Int) < 128) := by omega
              have q5d : decide ((x3.toNat : Int) < 128) = false := decide_eq_false q5z
              have p6 : 191 < x3.toNat := by omega
              have t6z : (191 : Int) < (x3.toNat : Int) := by omega
              have t6d : decide ((191 : Int) < (x3.toNat : Int)) = true := decide_eq_true t6z
              have t6e : decide (191 < x3.toNat) = true := decide_eq_true p6
              go_wp2_with fail
              have hB : Below w.heap.size w (wr.alloc (.cells #[.int .u8 LO, .int .u8 HI] 119)) := hbw.alloc hbw.size _
              have w0 : (wr.alloc (.cells #[.int .u8 LO, .int .u8 HI] 119)).cell? ⟨wr.heap.size, 0, none⟩ = some (.int .u8 LO) := by simp [go_sem]
              have w1 : (wr.alloc (.cells #[.int .u8 LO, .int .u8 HI] 119)).cell? ⟨wr.heap.size, 1, none⟩ = some (.int .u8 HI) := by simp [go_sem]
              have y1 := (St.below hB) 1 (by omega)
              rw [hx1] at y1
              have y2 := (St.below hB) 2 (by omega)
              rw [hx2] at y2
              have y3 := (St.below hB) 3 (by omega)
              rw [hx3] at y3
              generalize (wr.alloc (.cells #[.int .u8 LO, .int .u8 HI] 119)) = wv at *
              go_big_quiet_o (fail)
              go_wp2_with fail
              go_ret
              exact ⟨rfl, below_drewNv hB nq⟩
            rw [if_neg hb] at hlead
            have q0n : ¬ (n < 4) := by omega
            have q0z : ¬ ((n : Int) < 4) := by omega
            have d0z : decide ((n : Int) < 4) = false := decide_eq_false q0z
            have d0n : decide (n < 4) = false := decide_eq_false q0n
            have q0y : (4 : Int) ≤ (n : Int) := by omega
            have q1n : ¬ (x1.toNat < LO) := by omega
            have q2n : ¬ (HI < x1.toNat) := by omega
            have q1z : ¬ ((x1.toNat : Int) < (LO : Int)) := by omega
            have q2z : ¬ ((HI : Int) < (x1.toNat : Int)) := by omega
            have hz1 : (1 : Int) < (n : Int) := by omega
            have hp1 : 1 < n := by omega
            have hz2 : (2 : Int) < (n : Int) := by omega
            have q2c : ¬ (x2.toNat < 128) := by omega
            have q2d : ¬ (191 < x2.toNat) := by omega
            have hp2 : 2 < n := by omega
            have q2a : ¬ ((x2.toNat : Int) < 128) := by omega
            have q2b : ¬ ((191 : Int) < (x2.toNat : Int)) := by omega
            have d2a : decide ((x2.toNat : Int) < 128) = false := decide_eq_false q2a
            have d2b : decide ((191 : Int) < (x2.toNat : Int)) = false := decide_eq_false q2b
            have hz3 : (3 : Int) < (n : Int) := by omega
            have q3c : ¬ (x3.toNat < 128) := by omega
            have q3d : ¬ (191 < x3.toNat) := by omega
            have hp3 : 3 < n := by omega
            have q3a : ¬ ((x3.toNat : Int) < 128) := by omega
            have q3b : ¬ ((191 : Int) < (x3.toNat : Int)) := by omega
            have d3a : decide ((x3.toNat : Int) < 128) = false := decide_eq_false q3a
            have d3b : decide ((191 : Int) < (x3.toNat : Int)) = false := decide_eq_false q3b
            obtain ⟨tk, htk⟩ : ∃ tk, t.extract 4 t.size = tk := ⟨_, rfl⟩
            obtain ⟨ok, hok⟩ : ∃ ok, off + 4 = ok := ⟨_, rfl⟩
            obtain ⟨mk, hmk⟩ : ∃ mk, n - 4 = mk := ⟨_, rfl⟩
            have Stk : Sl w b ok tk := by rw [← htk, ← hok]; exact St.ext 4
            have ztk : tk.size = mk := by rw [← htk, Lib.ext_size]; omega
            have vk : Lib.validD tk.data.toList = V := by rw [← htk, Lib.ext_list]; exact hlead.symm
            clear hlead
            go_wp2_with fail
            have hB : Below w.heap.size w (wr.alloc (.cells #[.int .u8 LO, .int .u8 HI] 119)) := hbw.alloc hbw.size _
            have w0 : (wr.alloc (.cells #[.int .u8 LO, .int .u8 HI] 119)).cell? ⟨wr.heap.size, 0, none⟩ = some (.int .u8 LO) := by simp [go_sem]
            have w1 : (wr.alloc (.cells #[.int .u8 LO, .int .u8 HI] 119)).cell? ⟨wr.heap.size, 1, none⟩ = some (.int .u8 HI) := by simp [go_sem]
            have y1 := (St.below hB) 1 (by omega)
            rw [hx1] at y1
            have y2 := (St.below hB) 2 (by omega)
            rw [hx2] at y2
            have y3 := (St.below hB) 3 (by omega)
            rw [hx3] at y3
            generalize (wr.alloc (.cells #[.int .u8 LO, .int .u8 HI] 119)) = wv at *
            by_cases nk : n = 4
            · obtain rfl : mk = 0 := by omega
              subst nk
              go_big_quiet_o (fail)
              go_wp2_with fail
              go_roundg g'
              case measure => omega
              case rel => exact ⟨below_drewNv hB nq, tk, _, 0, rfl, ztk, fun h => by omega, vk, by omega, by omega⟩
            · go_big_quiet_o (fail)
              go_wp2_with fail
              go_roundg g'
              case measure => omega
              case rel => exact ⟨below_drewNv hB nq, tk, _, mk, rfl, ztk, fun _ => ⟨ok, rfl, Stk⟩, vk, by omega, by omega⟩
        · simp only [Lib.checkN, s2, s3, s4, if_false] at hlead
          subst hlead
          have e2 : ¬ ((X : Int) % 8 = 2) := by omega
          have e3 : ¬ ((X : Int) % 8 = 3) := by omega
          have e4 : ¬ ((X : Int) % 8 = 4) := by omega
          have f2 : ((X : Int) % 8 == 2) = false := by simpa using e2
          have f3 : ((X : Int) % 8 == 3) = false := by simpa using e3
          have f4 : ((X : Int) % 8 == 4) = false := by simpa using e4
          go_wp2_with fail
          go_ret
          exact ⟨rfl, hbw.alloc hbw.size _⟩
    · obtain rfl : n = 0 := by omega
      have hVt : true = V := by
        have hnil : t.data.toList = [] := List.eq_nil_of_length_eq_zero (by rw [← Lib.size_eq]; exact htn)
        rw [← hv, hnil]
        rfl
      subst hVt
      go_wp2_with fail
      go_ret
      exact ⟨rfl, hbw⟩
end Go.Proofs.YtbnfilhilgjnfaaDoor.Oc
