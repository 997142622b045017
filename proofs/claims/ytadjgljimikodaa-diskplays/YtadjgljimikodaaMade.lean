/- A disk behind calls; the files of a disk; bytes that are the same. -/
import Derived.Test.YtadjgljimikodaaShort
import Derived.Laws.IdiomStrings
namespace Go.Proofs.Ytadjgljimikodaa
set_option linter.unusedVariables false
set_option linter.unusedSimpArgs false
open Go.ChangeShapes Go.WideShapes Go.ChangeAt Go.RowKit

def DS.step (d : DS) (c : Cl) : DS := d.doD c.op c.file c.n c.b
def DS.run (d : DS) (L : List Cl) : DS := L.foldl DS.step d
theorem DS.run_next (d : DS) {L : List Cl} {k : Nat} {c : Cl} (h : L[k]? = some c) : d.run (L.take (k + 1)) = (d.run (L.take k)).step c := by
  have hk := (List.getElem?_eq_some_iff.1 h).1
  have e := (List.getElem?_eq_some_iff.1 h).2
  rw [DS.run, List.take_succ_eq_append_getElem hk, List.foldl_append, e]
  rfl
/-- a disk among what is new since block B -/
def At (B : Nat) (w : World) (g : Nat) (d : DS) : Prop := ∃ S, Dk w g S d ∧ ∀ k, Ft g S k → B ≤ k
theorem At.did {B : Nat} {w w' : World} {g : Nat} {S : Nat → Value} {d d' : DS} (hB : B ≤ w.heap.size) (hS : ∀ k, Ft g S k → B ≤ k) (h : Did w w' g S d') : At B w' g d' ∧ Below B w w' := by
  obtain ⟨S', h1, h2, h3⟩ := h
  exact ⟨⟨S', h1, fun k hk => by rcases h3 k hk with q | q; exact hS k q; omega⟩, h2.below hB hS⟩
theorem At.call {B : Nat} {w w' : World} {g : Nat} {d : DS} (h : At B w g d) (hb : Below w.heap.size w w') : At B w' g d := by
  obtain ⟨S, h1, h2⟩ := h
  exact ⟨S, h1.call hb, h2⟩

set_option maxHeartbeats 2000000 in
theorem lmade_any (room : Int) (a : Option Addr) (L : List Cl) (cap : Nat) (w : World) (h : Dos w a L) (hc : L.length ≤ cap) (hm : cap ≤ maxLen) (h1 : 1 ≤ room) (h2 : room ≤ 16777216) :
    Calls Try.prog 25 #[.int .i64 room, .slice a L.length cap] w fun e w' => e = .returned (.pointer (some ⟨w.heap.size, 0, none⟩)) ∧ At w.heap.size w' w.heap.size ((DS.start room.toNat).run L) ∧ Below w.heap.size w w' := by
  unfold maxLen at hm
  have H0 := hide h
  clear h
  obtain ⟨n, hn⟩ : ∃ n, L.length = n := ⟨_, rfl⟩
  rw [hn] at hc
  rw [hn]
  have HN := hide hn
  clear hn
  go_enter Try.func25, Try.ntmps25
  go_wp2_with fail
  refine (new_any room w h1 h2).mono ?_
  rintro e w1 ⟨rfl, hd1, hb1⟩
  have hat1 : At w.heap.size w1 w.heap.size (DS.start room.toNat) := ⟨nils, hd1, fun k hk => by
    rcases hk with rfl | ⟨i, hi, hk⟩
    · exact Nat.le_refl _
    · simp [nils, Value.ownBlock] at hk⟩
  have HAT := hide hat1
  have HB1 := hide hb1
  clear hat1 hd1 hb1
  obtain ⟨d0, hd0⟩ : ∃ d0, DS.start room.toNat = d0 := ⟨_, rfl⟩
  rw [hd0] at HAT
  have HD0 := hide hd0
  clear hd0
  go_wp2_with fail
  go_loopw [16] (fun i wr => ∃ k : Nat, k ≤ n ∧ i = .int .i64 k ∧ At w.heap.size wr w.heap.size (d0.run (L.take k)) ∧ Below w.heap.size w wr) (fun i _ => n - (intOf i).toNat)
  case atStart => exact ⟨0, by omega, rfl, by simpa [DS.run] using unhide HAT, unhide HB1⟩
  case round =>
    obtain ⟨k, hk, rfl, hat, hbel⟩ := hrel
    by_cases g1 : k < n
    · have i1 : (k : Int) < (n : Int) := by omega
      have i0 : (0 : Int) ≤ (k : Int) := by omega
      obtain ⟨c, hc1⟩ : ∃ c, L[k]? = some c := ⟨_, List.getElem?_eq_getElem (by rw [unhide HN]; exact g1)⟩
      have hD := (unhide H0).call hbel
      rcases hD.2 with h0 | ⟨b, off, rfl, hlt, hx⟩
      · rw [h0] at hc1; simp at hc1
      obtain ⟨q0, q1, q2, q3⟩ := hx k c hc1
      have hok := hD.1 c (List.mem_of_getElem? hc1)
      have hok0 := (unhide H0).1 c (List.mem_of_getElem? hc1)
      have hrun := hide (d0.run_next hc1)
      obtain ⟨a1, cap1, hv⟩ := byt_shape hok.byt
      rw [hv] at q3
      have hal : Below wr.heap.size wr (wr.alloc (.cells #[.int .i64 c.op, .int .i64 c.file, .int .i64 c.n, .slice a1 c.b.length cap1] 34)) := (Below.refl _ _).alloc (Nat.le_refl _) _
      obtain ⟨S, hdk, hft⟩ := hat.call hal
      have hdo := does_any w.heap.size S _ c.op c.file c.n c.v c.b _ hdk (hok.call hal).byt (fun hl => byt_far hok0.byt (Nat.le_refl _) hl) hok.n
      rw [hv] at hdo
      have HDO := hide hdo
      have HAL := hide hal
      have hsz := hbel.size
      clear hdo hal hx hD hc1 hdk hok hok0
      generalize c.b.length = cl at *
      go_wp2_with fail
      refine (unhide HDO).mono ?_
      rintro e w2 ⟨rfl, hdid⟩
      have hA := At.did (d := d0) (show w.heap.size ≤ _ from Nat.le_trans hsz (unhide HAL).size) hft hdid
      have hA1 := hide hA.1
      have hA2 := hide (hbel.trans (((unhide HAL).mono hsz).trans hA.2))
      clear hA hdid
      go_wp2
      go_roundw
      case rel =>
        refine ⟨k + 1, by omega, by go_num, ?_, unhide hA2⟩
        rw [unhide hrun]
        exact unhide hA1
      case measure => simp [intOf]; omega
    · obtain rfl : k = n := by omega
      rw [← unhide HN, List.take_length] at hat
      go_wp2
      go_ret
      exact ⟨rfl, by rw [unhide HD0]; exact hat, hbel⟩
end Go.Proofs.Ytadjgljimikodaa
