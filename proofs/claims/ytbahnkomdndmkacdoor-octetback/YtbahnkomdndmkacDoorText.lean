/- Texts that are read. -/
import Derived.Test.YtbahnkomdndmkacDoorUtf
import Derived.Laws.IdiomStrings
namespace Go.Proofs.YtbahnkomdndmkacDoor
set_option linter.unusedVariables false
set_option linter.unusedSimpArgs false
open Go.ChangeShapes Go.WideShapes Go.ChangeAt Go.RowKit Go.Shelf

def strOf (l : List Nat) : ByteArray := ⟨(l.map UInt8.ofNat).toArray⟩
theorem strOf_size (l : List Nat) : (strOf l).size = l.length := by simp [strOf, ByteArray.size]
theorem byt_convert {w : World} {v : Value} {l : List Nat} (h : Byt w v l) (h256 : ∀ y ∈ l, y < 256) : (convert 22 9 v).run Tryd.prog w = .ok (.string (strOf l)) w := by
  rcases h with ⟨rfl, rfl⟩ | ⟨a, cap, rfl, h1, h2, h3⟩
  · rw [run_convert_bytes_string w 22 9 5 none 0 0 Tryd.underlying22 Tryd.underlying5 Tryd.underlying9]
    simp [Conv.bytesToString]
    rfl
  · have q := run_convert_bytes_back (P := Tryd.prog) w 22 9 5 a cap (l.map UInt8.ofNat) Tryd.underlying22 Tryd.underlying5 Tryd.underlying9 (fun j hj => by
      have hj' : j < l.length := by simpa using hj
      rw [h3 j _ (List.getElem?_eq_getElem hj')]
      have := h256 _ (List.getElem_mem hj')
      simp; omega)
    rw [List.length_map] at q
    exact q

set_option maxHeartbeats 1000000 in
theorem equal_any (v x : Value) (l m : List Nat) (w : World) (hv : Byt w v l) (hx : Byt w x m) (hl : ∀ y ∈ l, y < 256) (hm : ∀ y ∈ m, y < 256) :
    Calls Tryd.prog 13 #[v, x] w fun e w' => e = .returned (.bool ((strOf l).toList == (strOf m).toList)) ∧ w = w' := by
  have c1 := byt_convert hv hl
  have c2 := byt_convert hx hm
  obtain ⟨a1, cap1, rfl⟩ := byt_shape hv
  obtain ⟨a2, cap2, rfl⟩ := byt_shape hx
  clear hv hx hl hm
  go_enter Tryd.func13, Tryd.ntmps13
  go_wp2
  go_ret
  exact ⟨rfl, rfl⟩

set_option maxHeartbeats 1000000 in
theorem runes_e (b off cap : Nat) (w : World) (h0 : w.cell? ⟨b, off, none⟩ = some (.int .u8 195)) (h1 : w.cell? ⟨b, off + 1, none⟩ = some (.int .u8 169)) (hc : 2 ≤ cap) (hm : cap ≤ maxLen) :
    Calls Tryd.prog 57 #[.slice (some ⟨b, off, none⟩) 2 cap] w fun e w' => e = .returned (.int .i64 1) ∧ Below w.heap.size w w' := by
  have hB : Byt w (.slice (some ⟨b, off, none⟩) 2 cap) [195, 169] := .inr ⟨⟨b, off, none⟩, cap, rfl, hc, hm, fun i y hy => by
    rw [add_plain]
    match i, hy with
    | 0, hy => cases hy; exact h0
    | 1, hy => cases hy; exact h1
    | i + 2, hy => simp at hy⟩
  have hcv := byt_convert hB (by decide)
  have hrc : Lib.runeCount (strOf [195, 169]) = 1 := by decide +kernel
  have hsz : (strOf [195, 169]).size < 9223372036854775807 := by rw [strOf_size]; decide
  clear hB
  generalize strOf [195, 169] = s at *
  go_enter Tryd.func57, Tryd.ntmps57
  go_wp2_with fail
  go_loop [2, 4] (fun r i => i = .int .i64 0) (fun _ _ => 0)
  case atStart => rfl
  case round =>
    obtain rfl := hrel
    go_wp2_with (go_at_call 40; refine (counts_any s _ hsz).mono ?_; rintro e w' ⟨rfl, pos, rfl⟩)
    go_ret
    exact ⟨rfl, (Below.refl _ _).alloc (Nat.le_refl _) _⟩

set_option maxHeartbeats 1000000 in
theorem right_e (b off cap : Nat) (w : World) (hT : Tabs w) (h0 : w.cell? ⟨b, off, none⟩ = some (.int .u8 195)) (h1 : w.cell? ⟨b, off + 1, none⟩ = some (.int .u8 169)) (hc : 2 ≤ cap) (hm : cap ≤ maxLen) :
    Calls Tryd.prog 49 #[.slice (some ⟨b, off, none⟩) 2 cap, .int .i64 1] w fun e w' => e = .returned (.int .i64 0) ∧ Below w.heap.size w w' := by
  go_enter Tryd.func49, Tryd.ntmps49
  go_wp2_with fail
  refine (valid_e b off cap _ hT h0 h1 hc).mono ?_
  rintro e w1 ⟨rfl, hb1⟩
  have k0 := cell_keep hb1 (lt_of_cell h0) h0
  have k1 := cell_keep hb1 (lt_of_cell h1) h1
  go_wp2_with fail
  refine (runes_e b off cap _ k0 k1 hc hm).mono ?_
  rintro e w2 ⟨rfl, hb2⟩
  go_wp2
  go_ret
  exact ⟨rfl, hb1.trans (hb2.mono hb1.size)⟩

set_option maxHeartbeats 2000000 in
theorem Text_e (g : Nat) (a : Option Addr) (n cap : Nat) (l : List Nat) (k : Nat) (w : World) (hT : Tabs w) (hg2 : 2 ≤ g) (hv : Byt w (.slice a n cap) l) (hr : Rdr w g (.slice a n cap) k 0) (hg : Low (.slice a n cap) g) (hl : n ≤ 1000000000) (h256 : ∀ y ∈ l, y < 256)
    (hm : numOf ((l.drop k).take 8) = 2) (hk : k + 10 ≤ n) (hb : (l.drop (k + 8)).take 2 = [195, 169]) :
    Calls Tryd.prog 26 #[.pointer (some ⟨g, 0, none⟩), .int .i64 1] w fun e w' => e = .returned (.string (strOf [195, 169])) ∧ Rdr w' g (.slice a n cap) (k + 10) 0 ∧ Below g w w' := by
  have HM := hide hm
  have HB := hide hb
  have H256 := hide h256
  clear hm hb h256
  have hPF := hr.1.1
  have hgz := hr.1.2
  have hq := Pl.fresh (w := w) (v := .slice a n cap) (k := k)
  have hb0 : Below w.heap.size w (w.alloc (.cells #[.slice a n cap, .int .i64 (k : Int)] 63)) := (Below.refl _ _).alloc (Nat.le_refl _) _
  have hv1 := hv.call hb0
  have hg1 : Low (.slice a n cap) w.heap.size := hg.mono (Nat.le_of_lt hgz)
  go_enter Tryd.func26, Tryd.ntmps26
  go_wp2_with fail
  refine (err_any g _ k 0 _ hr).mono ?_
  rintro e w0 ⟨rfl, rfl⟩
  go_wp2_with fail
  refine (bytes_any w.heap.size 0 a n cap l k 4 _ hv1 hq hg1 hl (unhide H256) 2 (unhide HM) (by omega) (by decide)).mono ?_
  rintro e w1 ⟨v1, rfl, hd1, hq1, hm1, hlow1⟩
  rw [unhide HB] at hd1
  have hbelow : Below w.heap.size w w1 := hb0.trans hm1.1
  rcases id hd1 with ⟨_, h0⟩ | ⟨a1, cap1, rfl, c1, c2, c3⟩
  · cases h0
  obtain ⟨b1, off1, rfl⟩ := plain_of c3 (by decide)
  have k0 := c3 0 _ rfl
  have k1 := c3 1 _ rfl
  rw [add_plain] at k0 k1
  rw [Nat.add_zero] at k0
  clear c3
  have hT1 : Tabs w1 := hT.below hbelow
  have hr1 : Rdr w1 g (.slice a n cap) k 0 := hr.below (hbelow.mono hgz)
  go_wp2_with fail
  refine (right_e b1 off1 cap1 _ hT1 k0 k1 c1 c2).mono ?_
  rintro e w2 ⟨rfl, hb2⟩
  have hr2 : Rdr w2 g (.slice a n cap) k 0 := hr1.below (hb2.mono hr1.1.2)
  have hq2 : Pl w2 w.heap.size 0 (.slice a n cap) (k + 8 + 2) := hq1.below (hb2.mono hq1.2)
  have hd2 : Byt w2 (.slice (some ⟨b1, off1, none⟩) 2 cap1) [195, 169] := hd1.call hb2
  have hput := Pl.put hr2.1 (.slice a n cap) (k + 8 + 2)
  rw [show ((k + 8 + 2 : Nat) : Int) = (k : Int) + 8 + 2 by omega] at hput
  have hd3 := hd2.low (g := g) hput.2.1 (hlow1 g hg)
  have hcv : (convert 22 9 (.slice (some ⟨b1, off1, none⟩) 2 cap1)).run Tryd.prog ((w2.setCell ⟨g, 0, none⟩ (.slice a n cap)).setCell ⟨g, 1, none⟩ (.int .i64 ((k : Int) + 8 + 2))) = .ok (.string (strOf [195, 169])) ((w2.setCell ⟨g, 0, none⟩ (.slice a n cap)).setCell ⟨g, 1, none⟩ (.int .i64 ((k : Int) + 8 + 2))) := byt_convert hd3 (by decide)
  have hr3 := hide (hr2.moved hput.1 hput.2)
  have hm3 := hide hput.2
  clear hput
  have hQF := hq2.1
  have hPF2 := hr2.1.1
  clear hPF
  go_wp2_with fail
  go_ret
  exact ⟨rfl, unhide hr3, (hbelow.trans (hb2.mono hbelow.size)).mono (Nat.le_of_lt hgz) |>.trans (unhide hm3).1⟩
end Go.Proofs.YtbahnkomdndmkacDoor
