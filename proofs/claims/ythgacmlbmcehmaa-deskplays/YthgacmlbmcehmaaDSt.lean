/- How many are in at a label (Seats). -/
import Derived.Test.YthgacmlbmcehmaaDWr
namespace Go.Proofs.Ythgacmlbmcehmaa
set_option linter.unusedVariables false
set_option linter.unusedSimpArgs false
open Go.ChangeShapes Go.WideShapes Go.ChangeAt Go.RowKit Go.Joins Go.Deep

def isIn (l : Int) (x : Gst) : Bool := x.opn && x.label == l
def seatsN (D : List Gst) (l : Int) : Nat := (D.filter (isIn l)).length
theorem seats_take {D : List Gst} {l : Int} {k : Nat} {x : Gst} (hx : D[k]? = some x) : seatsN (D.take (k + 1)) l = seatsN (D.take k) l + (if isIn l x then 1 else 0) := by
  unfold seatsN
  rw [List.take_add_one, hx, List.filter_append, List.length_append]
  cases h : isIn l x <;> simp [h]
theorem seats_le (D : List Gst) (l : Int) : seatsN D l ≤ D.length := List.length_filter_le _ _
set_option maxRecDepth 100000 in
set_option maxHeartbeats 4000000 in
theorem seats_nil (l : Int) (w : World) : Calls Try.prog 27 #[.pointer none, .int .i64 l] w fun r w' => r = .returned (.int .i64 0) ∧ w = w' := by
  go_enter Try.func27, Try.ntmps27
  go_wp2_with fail
  go_ret
  exact ⟨rfl, rfl⟩
set_option maxRecDepth 100000 in
set_option maxHeartbeats 4000000 in
theorem seats_zero (g : Nat) (l : Int) (w : World) (h : RowAt w g 72 [.slice none 0 0, .slice none 0 0]) : Calls Try.prog 27 #[.pointer (some ⟨g, 0, none⟩), .int .i64 l] w fun r w' => r = .returned (.int .i64 0) ∧ w = w' := by
  have c0 : w.cell? ⟨g, 0, none⟩ = some (.slice none 0 0) := h.cell 0
  clear h
  go_enter Try.func27, Try.ntmps27
  go_wp2_with fail
  go_loopw [5, 15] (fun a i wr => a = .int .i64 0 ∧ i = .int .i64 0 ∧ w = wr) (fun _ _ _ => 0)
  case atStart => exact ⟨rfl, rfl, rfl⟩
  case round =>
    obtain ⟨rfl, rfl, rfl⟩ := hrel
    go_wp2_with fail
    go_ret
    exact ⟨rfl, rfl⟩
set_option maxRecDepth 100000 in
set_option maxHeartbeats 4000000 in
theorem seats_ok (g gg c : Nat) (sv : Value) (ex : List Value) (D : List Gst) (w : World) (h : Dk w g gg c sv ex D) (l : Int) :
    Calls Try.prog 27 #[.pointer (some ⟨g, 0, none⟩), .int .i64 l] w fun r w' => r = .returned (.int .i64 (seatsN D l : Int)) ∧ Below w.heap.size w w' := by
  have c0 : w.cell? ⟨g, 0, none⟩ = some (.slice (some ⟨gg, 0, none⟩) D.length c) := h.obj.cell 0
  have HD := hide h
  have hl := h.le
  obtain ⟨n, hn⟩ : ∃ n, D.length = n := ⟨_, rfl⟩
  have HN := hide hn
  rw [hn] at c0 hl
  have n1 : (n : Int) ≤ 8 := by omega
  obtain ⟨res, hres⟩ : ∃ r, (seatsN D l : Int) = r := ⟨_, rfl⟩
  rw [hres]
  have HRES := hide hres
  clear h hn hres
  go_enter Try.func27, Try.ntmps27
  go_wp2_with fail
  go_loopw [5, 15] (fun a i wr => ∃ k : Nat, k ≤ n ∧ i = .int .i64 (k : Int) ∧ (∃ s : Nat, a = .int .i64 (s : Int) ∧ s ≤ 8 ∧ Hid (s = seatsN (D.take k) l)) ∧ Hid (Below w.heap.size w wr)) (fun _ i _ => (n - intOf i).toNat)
  case atStart => exact ⟨0, by omega, by simp, ⟨0, by simp, by omega, hide rfl⟩, hide (Below.refl _ _)⟩
  case round =>
    obtain ⟨k, hk, rfl, ⟨s, rfl, hs8, HS⟩, HB⟩ := hrel
    by_cases hlt : k < n
    · have hN := unhide HN
      obtain ⟨x, hx⟩ : ∃ x, D[k]? = some x := ⟨_, List.getElem?_eq_getElem (by omega)⟩
      have hd := (unhide HD).call (unhide HB)
      have e0 : wr.cell? ⟨gg, k * 6, none⟩ = some (.int .i64 x.label) := hd.cell (f := 0) hx (by decide)
      have e1 : wr.cell? ⟨gg, k * 6 + 1, none⟩ = some (.int .i64 x.conn) := hd.cell hx (by decide)
      have e2 : wr.cell? ⟨gg, k * 6 + 2, none⟩ = some (.bool x.opn) := hd.cell hx (by decide)
      have e3 : wr.cell? ⟨gg, k * 6 + 3, none⟩ = some (.int .i64 x.silent) := hd.cell hx (by decide)
      have e4 : wr.cell? ⟨gg, k * 6 + 4, none⟩ = some (.int .i64 x.wrong) := hd.cell hx (by decide)
      have e5 : wr.cell? ⟨gg, k * 6 + 5, none⟩ = some (.int .i64 x.locked) := hd.cell hx (by decide)
      have HT := hide (seats_take (l := l) hx)
      have hsl : s ≤ k := by
        rw [unhide HS]
        refine Nat.le_trans (seats_le _ _) ?_
        rw [List.length_take]; omega
      have kI : (k : Int) < (n : Int) := by omega
      have HB2 := hide ((unhide HB).alloc (unhide HB).size (.cells #[.int .i64 x.label, .int .i64 x.conn, .bool x.opn, .int .i64 x.silent, .int .i64 x.wrong, .int .i64 x.locked] 77))
      cases ho : x.opn with
      | false =>
        have hi : isIn l x = false := by simp [isIn, ho]
        rw [ho] at e2 HB2
        have HT2 : Hid (s = seatsN (D.take (k + 1)) l) := hide (by have h1 := unhide HT; rw [hi] at h1; have h2 := unhide HS; simp at h1; omega)
        clear hi hx hd HT ho hN
        go_wp2_with fail
        go_roundw
        case rel => exact ⟨k + 1, by omega, by simp, ⟨s, rfl, hs8, HT2⟩, HB2⟩
        case measure => simp [intOf]; omega
      | true =>
        rw [ho] at e2 HB2
        by_cases hlab : x.label = l
        · have hi : isIn l x = true := by simp [isIn, ho, hlab]
          have hb : (x.label == l) = true := by simp [hlab]
          have HT2 : Hid (s + 1 = seatsN (D.take (k + 1)) l) := hide (by have h1 := unhide HT; rw [hi] at h1; have h2 := unhide HS; simp at h1; omega)
          have hs9 : s + 1 ≤ 8 := by omega
          clear hi hx hd HT ho hN hlab
          go_wp2_with fail
          go_roundw
          case rel => exact ⟨k + 1, by omega, by simp, ⟨s + 1, by simp, hs9, HT2⟩, HB2⟩
          case measure => simp [intOf]; omega
        · have hi : isIn l x = false := by simp [isIn, ho, hlab]
          have hb : (x.label == l) = false := by simp [hlab]
          have HT2 : Hid (s = seatsN (D.take (k + 1)) l) := hide (by have h1 := unhide HT; rw [hi] at h1; have h2 := unhide HS; simp at h1; omega)
          clear hi hx hd HT ho hN
          go_wp2_with fail
          go_roundw
          case rel => exact ⟨k + 1, by omega, by simp, ⟨s, rfl, hs8, HT2⟩, HB2⟩
          case measure => simp [intOf]; omega
    · obtain rfl : k = n := by omega
      have kI : ¬ (k : Int) < (k : Int) := by omega
      have hE : seatsN D l = s := by
        have := unhide HS
        rw [List.take_of_length_le (by have := unhide HN; omega)] at this
        exact this.symm
      have HE : Hid ((s : Int) = res) := hide (by rw [← unhide HRES, hE])
      clear hE
      go_wp2_with fail
      go_ret
      exact ⟨by rw [← unhide HE]; rfl, unhide HB⟩
end Go.Proofs.Ythgacmlbmcehmaa
