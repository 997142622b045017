/- Sums of bytes, and blocks. -/
import Derived.Test.YtbahnkomdndmkacDoorBytes
import Derived.Lib.AppendStr
namespace Go.Proofs.YtbahnkomdndmkacDoor
set_option linter.unusedVariables false
set_option linter.unusedSimpArgs false
open Go.ChangeShapes Go.WideShapes Go.ChangeAt Go.RowKit

theorem plain_of {w : World} {a : Addr} {l : List Nat} (h : ∀ (i y : Nat), l[i]? = some y → w.cell? (a.add i) = some (.int .u8 (y : Int))) (hl : 0 < l.length) : ∃ b off, a = ⟨b, off, none⟩ := by
  obtain ⟨b, off, spot⟩ := a
  have := h 0 _ (List.getElem?_eq_getElem hl)
  have hspot : spot = none := by simpa [Addr.add] using World.cell?_spot this
  subst hspot
  exact ⟨b, off, rfl⟩

def R32 (c : Int) : Prop := 0 ≤ c ∧ c < 4294967296
theorem xor_r32 {a b : Int} (ha : R32 a) (hb : R32 b) : R32 (bits .xor .u32 a b) := by
  rw [u32_xor a b ha.1 ha.2 hb.1 hb.2]
  have h : a.toNat ^^^ b.toNat < 2 ^ 32 := Nat.xor_lt_two_pow (by have := ha.2; omega) (by have := hb.2; omega)
  exact ⟨by omega, by omega⟩

def stepI (d : Int) : Int := if (bits .and .u32 d 2147483648 != 0) = true then bits .xor .u32 (d * 2 % 4294967296) 2168537515 else d * 2 % 4294967296
theorem step_r32 {d : Int} : R32 (stepI d) := by
  unfold stepI
  split
  · exact xor_r32 ⟨by omega, by omega⟩ ⟨by decide, by decide⟩
  · exact ⟨by omega, by omega⟩
def mixTo (c x : Int) : Nat → Int
  | 0 => bits .xor .u32 c (x * 16777216)
  | k + 1 => stepI (mixTo c x k)
theorem mix_r32 {c x : Int} (hc : R32 c) (hx : 0 ≤ x ∧ x < 256) : ∀ k, R32 (mixTo c x k)
  | 0 => xor_r32 hc ⟨by omega, by omega⟩
  | k + 1 => step_r32

set_option maxHeartbeats 1000000 in
theorem mix_any (c x : Int) (w : World) (hc : R32 c) (hx : 0 ≤ x ∧ x < 256) :
    Calls Tryd.prog 45 #[.int .u32 c, .int .u8 x] w fun e w' => e = .returned (.int .u32 (mixTo c x 8)) ∧ w = w' := by
  have hr := mix_r32 hc hx
  have HR := hide hr
  obtain ⟨c0, c1⟩ := hc
  obtain ⟨x0, x1⟩ := hx
  clear hr
  go_enter Tryd.func45, Tryd.ntmps45
  go_wp2_with fail
  go_loop [0, 11] (fun v i => ∃ k : Nat, k ≤ 8 ∧ i = .int .i64 k ∧ v = .int .u32 (mixTo c x k)) (fun _ i => 8 - (intOf i).toNat)
  case atStart => exact ⟨0, by omega, rfl, rfl⟩
  case round =>
    obtain ⟨k, hk, rfl, rfl⟩ := hrel
    have hb := unhide HR k
    obtain ⟨d, hd⟩ : ∃ d, mixTo c x k = d := ⟨_, rfl⟩
    rw [hd] at hb ⊢
    have HD := hide hd
    clear hd
    obtain ⟨d0, d1⟩ := hb
    by_cases hlt : k < 8
    · cases ht : (bits BinOp.and IntKind.u32 d 2147483648 != 0)
      · go_wp2_with fail
        go_round
        case rel =>
          refine ⟨k + 1, by omega, by go_num, ?_⟩
          rw [show mixTo c x (k + 1) = stepI (mixTo c x k) from rfl, unhide HD, stepI, if_neg (by rw [ht]; decide)]
        case measure => simp [intOf]; omega
      · go_wp2_with fail
        go_round
        case rel =>
          refine ⟨k + 1, by omega, by go_num, ?_⟩
          rw [show mixTo c x (k + 1) = stepI (mixTo c x k) from rfl, unhide HD, stepI, if_pos ht]
        case measure => simp [intOf]; omega
    · have hk8 : k = 8 := by omega
      subst hk8
      go_wp2_with fail
      go_ret
      exact ⟨by rw [unhide HD]; rfl, rfl⟩

def sumTo (l : List Nat) : Int := l.foldl (fun (c : Int) (x : Nat) => mixTo c (x : Int) 8) 4294967295
theorem sum_r32 (l : List Nat) (h : ∀ y ∈ l, y < 256) : R32 (sumTo l) := by
  have : ∀ (l : List Nat) (c : Int), R32 c → (∀ y ∈ l, y < 256) → R32 (l.foldl (fun (c : Int) (x : Nat) => mixTo c (x : Int) 8) c) := by
    intro l
    induction l with
    | nil => intro c hc _; exact hc
    | cons x l ih =>
      intro c hc hl
      have hx := hl x (List.mem_cons_self ..)
      exact ih _ (mix_r32 hc ⟨by omega, by omega⟩ 8) (fun y hy => hl y (List.mem_cons_of_mem _ hy))
  exact this l _ ⟨by decide, by decide⟩ h
theorem sum_take {l : List Nat} {k y : Nat} (h : l[k]? = some y) : sumTo (l.take (k + 1)) = mixTo (sumTo (l.take k)) y 8 := by
  have hk : k < l.length := by
    by_cases hk : k < l.length
    · exact hk
    · rw [List.getElem?_eq_none (by omega)] at h; cases h
  rw [List.take_succ_eq_append_getElem hk, sumTo, List.foldl_append]
  rw [List.getElem?_eq_getElem hk] at h
  obtain rfl := Option.some.inj h
  rfl

set_option maxHeartbeats 1000000 in
theorem sum_any (v : Value) (l : List Nat) (w : World) (hv : Byt w v l) (h256 : ∀ y ∈ l, y < 256) (hl : l.length ≤ 1000000000) :
    Calls Tryd.prog 17 #[v] w fun e w' => e = .returned (.int .u32 (sumTo l)) ∧ w = w' := by
  rcases hv with ⟨rfl, rfl⟩ | ⟨a, cap, rfl, h1, h2, h3⟩
  · go_enter Tryd.func17, Tryd.ntmps17
    go_wp2_with fail
    go_rounds 1
    go_ret
    exact ⟨rfl, rfl⟩
  · have HC := hide h3
    have H256 := hide h256
    obtain ⟨n, hn⟩ : ∃ n, l.length = n := ⟨_, rfl⟩
    rw [hn] at h1 hl
    rw [hn]
    have HN := hide hn
    clear h3 h256 hn
    go_enter Tryd.func17, Tryd.ntmps17
    go_wp2_with fail
    go_loop [3, 8] (fun c i => ∃ k : Nat, k ≤ n ∧ i = .int .i64 k ∧ c = .int .u32 (sumTo (l.take k))) (fun _ i => n - (intOf i).toNat)
    case atStart => exact ⟨0, by omega, rfl, rfl⟩
    case round =>
      obtain ⟨k, hk, rfl, rfl⟩ := hrel
      have hb := sum_r32 (l.take k) (fun y hy => unhide H256 y (List.mem_of_mem_take hy))
      obtain ⟨d, hd⟩ : ∃ d, sumTo (l.take k) = d := ⟨_, rfl⟩
      rw [hd] at hb ⊢
      have HD := hide hd
      clear hd
      by_cases hlt : k < n
      · obtain ⟨y, hy⟩ : ∃ y, l[k]? = some y := ⟨_, List.getElem?_eq_getElem (by rw [unhide HN]; exact hlt)⟩
        have hcell := unhide HC k y hy
        obtain ⟨b, off, rfl⟩ := plain_of (unhide HC) (by rw [unhide HN]; omega)
        rw [add_plain] at hcell
        have hy256 := unhide H256 y (List.mem_of_getElem? hy)
        have HY := hide hy
        clear hy
        have g1 : (0 : Int) ≤ (k : Int) := by omega
        have g2 : (k : Int) < (n : Int) := by omega
        go_wp2_with (go_at_call 45; refine (mix_any _ _ _ hb (by omega)).mono ?_; rintro e w' ⟨rfl, rfl⟩)
        go_round
        case rel => exact ⟨k + 1, by omega, by go_num, by rw [sum_take (unhide HY), unhide HD]⟩
        case measure => simp [intOf]; omega
      · have hkn : k = n := by omega
        subst hkn
        go_wp2_with fail
        go_ret
        exact ⟨by rw [← unhide HD, List.take_of_length_le (by rw [unhide HN]; omega)]; rfl, rfl⟩

/-- a sum's four bytes, the highest first -/
def sum4 (s : Int) : List Nat := [(s / 16777216).toNat, (s / 65536 % 256).toNat, (s / 256 % 256).toNat, (s % 256).toNat]
/-- the block of bytes -/
def sealB (d : List Nat) : List Nat := putB [] d ++ sum4 (sumTo (putB [] d))
theorem num8_256 (u : Nat) : ∀ y ∈ num8 u, y < 256 := by
  intro y hy
  simp only [num8, List.mem_map] at hy
  obtain ⟨k, _, rfl⟩ := hy
  exact Nat.mod_lt _ (by decide)
theorem putB_256 {l d : List Nat} (hl : ∀ y ∈ l, y < 256) (hd : ∀ y ∈ d, y < 256) : ∀ y ∈ putB l d, y < 256 := by
  intro y hy
  simp only [putB, List.mem_append] at hy
  rcases hy with (hy | hy) | hy
  · exact hl y hy
  · exact num8_256 _ y hy
  · exact hd y hy
theorem putB_len (l d : List Nat) : (putB l d).length = l.length + 8 + d.length := by simp [putB, num8_len]; omega
theorem bv_sum4 {s : Int} (h : R32 s) : bv (sum4 s) = [.int .u8 (s / 16777216), .int .u8 (s / 65536 % 256), .int .u8 (s / 256 % 256), .int .u8 (s % 256)] := by
  have e : ∀ x : Int, 0 ≤ x → Int.ofNat x.toNat = x := fun x hx => by simp; omega
  have := h.1
  simp only [bv, sum4, List.map_cons, List.map_nil]
  rw [e _ (by omega), e _ (by omega), e _ (by omega), e _ (by omega)]

theorem seal_long (a : Option Addr) (n cap : Nat) (w : World) (h : (16384 : Int) < (n : Int)) :
    Calls Tryd.prog 11 #[.slice a n cap] w fun e w' => e = .returned (.tuple #[.slice none 0 0, .int .i64 4]) ∧ w = w' := by
  go_enter Tryd.func11, Tryd.ntmps11
  go_wp2
  go_ret2
  exact ⟨rfl, rfl⟩

set_option maxHeartbeats 1000000 in
theorem seal_any (v : Value) (d : List Nat) (w : World) (hv : Byt w v d) (h256 : ∀ y ∈ d, y < 256) (hd : d.length ≤ 16384) :
    Calls Tryd.prog 11 #[v] w fun e w' => ∃ v', e = .returned (.tuple #[v', .int .i64 0]) ∧ w'.ownsRow w.heap.size 5 1 v' (sealB d).length (bv (sealB d)) ∧ Below w.heap.size w w' := by
  obtain ⟨i0, hi, hz0, hz1, hz2⟩ := info_parts info5
  have h256' := putB_256 (l := []) (fun y hy => by cases hy) h256
  have hlen := putB_len [] d
  obtain ⟨a, n, cap, hva⟩ : ∃ a n cap, v = .slice a n cap ∧ n = d.length := by
    rcases hv with ⟨rfl, rfl⟩ | ⟨a, cap, rfl, _⟩
    · exact ⟨none, 0, 0, rfl, rfl⟩
    · exact ⟨some a, _, cap, rfl, rfl⟩
  obtain ⟨rfl, hn⟩ := hva
  have H256 := hide h256'
  have HL := hide hlen
  have HN := hide hn
  have hn2 : n ≤ 16384 := by omega
  have hn3 : ¬ (16384 : Int) < (n : Int) := by omega
  clear h256 h256' hlen hn
  have hnil : Byt w (.slice none 0 0) [] := .inl ⟨rfl, rfl⟩
  have hr := sum_r32 (putB [] d) (unhide H256)
  obtain ⟨s, hs⟩ : ∃ s, sumTo (putB [] d) = s := ⟨_, rfl⟩
  rw [hs] at hr
  have HS := hide hs
  clear hs
  obtain ⟨s0, s1⟩ := hr
  go_enter Tryd.func11, Tryd.ntmps11
  go_wp2_with fail
  refine (putbytes_any _ _ [] d _ hnil hv (by simp) (by omega)).mono ?_
  rintro e w1 ⟨v1, rfl, ho1, hb1⟩
  go_wp2_with fail
  refine (sum_any _ _ _ (Byt.of_own ho1) (unhide H256) (by rw [unhide HL]; simp; omega)).mono ?_
  rintro e w2 ⟨rfl, rfl⟩
  rw [unhide HS]
  go_wp2_with (at_builtin; refine wpList_append_own _ rfl _ _ 22 rfl w.heap.size 5 i0 (.int .u8 0) 1 1 Tryd.underlying22 hi hz0 hz1 hz2 rfl (by decide) _ _ _ rfl (ho1.alloc _) ⟨w1.heap.size, 0, none⟩ 4 4 (bv (sum4 s)) rfl ?c0 ?c1 ?c2 ?c3 ?c4 ?c5 ?_)
  case c0 => rfl
  case c1 =>
    intro j x hj
    rw [bv_sum4 ⟨s0, s1⟩] at hj
    rw [add_plain]
    match j, hj with
    | 0, hj => simp at hj; subst hj; simp [go_sem]
    | 1, hj => simp at hj; subst hj; simp [go_sem]
    | 2, hj => simp at hj; subst hj; simp [go_sem]
    | 3, hj => simp at hj; subst hj; simp [go_sem]
  case c2 => exact bv_one _
  case c3 => rw [unhide HL]; unfold maxLen; simp; omega
  case c4 => rw [unhide HL]; simp; omega
  case c5 => have := hb1.size; simp; omega
  intro v' w3 hown' hgrow' _
  go_wp2
  go_ret2
  refine ⟨_, rfl, ?_, (hb1.alloc hb1.size _).grown hgrow' (by have := hb1.size; simp; omega) (fun k hk => (ho1.lt k hk).1)⟩
  exact own_cast hown' (by rw [sealB, unhide HS, List.length_append]; rfl) (by rw [sealB, unhide HS, bv_append])

theorem strCells_bv (x : ByteArray) : Lib.strCells x = bv (x.data.toList.map (·.toNat)) := by
  simp [Lib.strCells, bv]

def txt (x : ByteArray) : List Nat := x.data.toList.map (·.toNat)
theorem txt_len (x : ByteArray) : (txt x).length = x.size := by simp [txt]

set_option maxHeartbeats 1000000 in
theorem puttext_any (v : Value) (l : List Nat) (x : ByteArray) (w : World) (hv : Byt w v l) (hl : l.length ≤ 100000000) (hx : x.size ≤ 100000000) :
    Calls Tryd.prog 16 #[v, .string x] w fun e w' => ∃ v', e = .returned v' ∧ w'.ownsRow w.heap.size 5 1 v' (putB l (txt x)).length (bv (putB l (txt x))) ∧ Below w.heap.size w w' := by
  obtain ⟨i0, hi, hz0, hz1, hz2⟩ := info_parts info5
  go_enter Tryd.func16, Tryd.ntmps16
  go_wp2_with fail
  refine (roomy_any v l (8 + x.size) _ hv (by omega) (by omega)).mono ?_
  rintro e w1 ⟨v1, rfl, ho1, hb1⟩
  go_wp2_with fail
  refine (appnum_any w.heap.size v1 l (x.size : Int) _ ho1 hb1.size (by omega) (by omega) (by omega)).mono ?_
  rintro e w2 ⟨v2, rfl, ho2, hb2⟩
  rw [Int.toNat_natCast] at ho2
  have hb12 := hb1.trans hb2
  go_wp2_with (at_builtin; refine Lib.wpList_append_own_string _ rfl _ _ 22 9 rfl w.heap.size 5 i0 Tryd.underlying22 Tryd.underlying9 hi hz0 hz1 hz2 _ _ _ rfl ho2 x rfl ?c1 ?c2 ?c3 ?_)
  case c1 => rw [List.length_append, num8_len]; unfold maxLen; omega
  case c2 => rw [List.length_append, num8_len]; omega
  case c3 => exact hb12.size
  intro v' w3 hown' hgrow' _
  go_wp2
  go_ret
  refine ⟨_, rfl, ?_, hb12.grown hgrow' hb12.size (fun k hk => (ho2.lt k hk).1)⟩
  exact own_cast hown' (by simp only [putB, List.length_append, txt_len]) (by rw [putB, bv_append (l ++ _), txt_len, strCells_bv]; rfl)

/-- numbers' bytes behind others -/
def putN (l : List Nat) (N : Nat → Int) : Nat → List Nat
  | 0 => l
  | k + 1 => putN l N k ++ num8 (N k).toNat
theorem putN_len (l : List Nat) (N : Nat → Int) (k : Nat) : (putN l N k).length = l.length + 8 * k := by
  induction k with
  | zero => simp [putN]
  | succ k ih => simp [putN, ih, num8_len]; omega

set_option maxHeartbeats 1000000 in
theorem put_any (v : Value) (l : List Nat) (b n cap : Nat) (N : Nat → Int) (w : World) (hv : Byt w v l) (hl : l.length ≤ 100000000) (hn : n ≤ 1000) (hb : b < w.heap.size)
    (hN : ∀ i, i < n → w.cell? ⟨b, i, none⟩ = some (.int .i64 (N i)) ∧ 0 ≤ N i ∧ N i ≤ 9223372036854775807) :
    Calls Tryd.prog 39 #[v, .slice (some ⟨b, 0, none⟩) n cap] w fun e w' => ∃ v', e = .returned v' ∧ w'.ownsRow w.heap.size 5 1 v' (putN l N n).length (bv (putN l N n)) ∧ Below w.heap.size w w' := by
  have HNN := hide hN
  clear hN
  go_enter Tryd.func39, Tryd.ntmps39
  go_wp2_with fail
  have hc8 : (8 * (n : Int)) = ((8 * n : Nat) : Int) := by omega
  rw [hc8]
  refine (roomy_any v l (8 * n) _ hv (by omega) (by omega)).mono ?_
  rintro e w1 ⟨v1, rfl, ho1, hb1⟩
  clear hc8
  go_wp2_with fail
  go_loopw [5, 15] (fun v i wr => ∃ k : Nat, k ≤ n ∧ i = .int .i64 k ∧ wr.ownsRow w.heap.size 5 1 v (putN l N k).length (bv (putN l N k)) ∧ Below w.heap.size w wr) (fun _ i _ => n - (intOf i).toNat)
  case atStart => exact ⟨0, by omega, rfl, ho1, hb1⟩
  case round =>
    obtain ⟨k, hk, rfl, hown, bel⟩ := hrel
    by_cases hlt : k < n
    · have hc := cell_keep bel hb (unhide HNN k hlt).1
      have hN0 := (unhide HNN k hlt).2
      have g1 : (0 : Int) ≤ (k : Int) := by omega
      have g2 : (k : Int) < (n : Int) := by omega
      have hlen := putN_len l N k
      have HLn := hide hlen
      clear hlen
      go_wp2_with fail
      refine (appnum_any w.heap.size _ _ (N k) _ hown bel.size (by rw [unhide HLn]; omega) hN0.2 hN0.1).mono ?_
      rintro e w2 ⟨v2, rfl, ho2, hb2⟩
      go_wp2
      go_roundw
      case rel => exact ⟨k + 1, by omega, by go_num, ho2, bel.trans hb2⟩
      case measure => simp [intOf]; omega
    · have hkn : k = n := by omega
      subst hkn
      go_wp2
      go_ret
      exact ⟨_, rfl, hown, bel⟩
end Go.Proofs.YtbahnkomdndmkacDoor
