/- What a disk's calls do, one by one: new ones, what is wiped, what is read. -/
import Derived.Test.YtadjgljimikodaaOps2
namespace Go.Proofs.Ytadjgljimikodaa
set_option linter.unusedVariables false
set_option linter.unusedSimpArgs false
open Go.ChangeShapes Go.WideShapes Go.ChangeAt Go.RowKit

def DS.start (room : Nat) : DS := { F := fun _ => [], room := room, on := true, fuse := 0 }
def nils : Nat → Value := fun _ => .slice none 0 0
set_option maxHeartbeats 1000000 in
theorem new_any (room : Int) (w : World) (h1 : 1 ≤ room) (h2 : room ≤ 16777216) :
    Calls Try.prog 9 #[.int .i64 room] w fun e w' => e = .returned (.tuple #[.pointer (some ⟨w.heap.size, 0, none⟩), .int .i64 0]) ∧ Dk w' w.heap.size nils (DS.start room.toNat) ∧ Below w.heap.size w w' := by
  obtain ⟨r, rfl⟩ := Int.eq_ofNat_of_zero_le (show 0 ≤ room by omega)
  rw [Int.toNat_natCast]
  go_enter Try.func9, Try.ntmps9
  go_wp2
  go_ret2
  refine ⟨rfl, ⟨?_, ?_, ?_⟩, (Below.refl _ _).alloc (Nat.le_refl _) _⟩
  · constructor <;> (simp [go_sem, nils, DS.start]; done)
  · exact ⟨fun i hi => World.ownsRow_nil _ _ _ _, fun i hi => by simp [nils, Value.ownBlock], fun i j _ _ _ k hk => by simp [nils, Value.ownBlock] at hk⟩
  · exact ⟨by simp [DS.start]; omega, by simp [DS.start]; omega, by simp [DS.start, DS.used], by simp [DS.start]⟩

set_option maxHeartbeats 1000000 in
theorem new_bad (room : Int) (w : World) (h : room < 1 ∨ 16777216 < room) :
    Calls Try.prog 9 #[.int .i64 room] w fun e w' => e = .returned (.tuple #[.pointer none, .int .i64 1]) ∧ w = w' := by
  by_cases h1 : room < 1
  · go_enter Try.func9, Try.ntmps9
    go_wp2
    go_ret2
    exact ⟨rfl, rfl⟩
  · have h2 : (16777216 : Int) < room := by omega
    go_enter Try.func9, Try.ntmps9
    go_wp2
    go_ret2
    exact ⟨rfl, rfl⟩

theorem Dk.wiped {w : World} {g : Nat} {S : Nat → Value} {d : DS} (h : Dk w g S d) (i : Nat) (hi : i < 3) :
    Dk (w.setCell ⟨g, i, none⟩ (.slice none 0 0)) g (upd S i (.slice none 0 0)) { d with F := upd d.F i [] } := by
  refine ⟨h.cells.setFile i hi _, ?_, ⟨h.ok.room1, h.ok.room2, ?_, h.ok.fuse⟩⟩
  · exact (h.rows.upd hi h.cells.lt (l := []) (World.ownsRow_nil _ _ _ _) ⟨rfl, rfl, rfl, Nat.le_refl _, fun _ _ _ => rfl⟩ (.inl rfl)).setG i _
  · have := h.ok.used
    refine Nat.le_trans ?_ this
    simp only [DS.used, Go.Proofs.Ytadjgljimikodaa.upd]
    have e : ∀ j, (if j = i then ([] : List Nat) else d.F j).length ≤ (d.F j).length := fun j => by split <;> simp
    have := e 0
    have := e 1
    have := e 2
    omega

def inF (file : Int) : Prop := 0 ≤ file ∧ file < 3
instance (file : Int) : Decidable (inF file) := by unfold inF; infer_instance
def DS.wipeD (d : DS) (file : Int) : DS := if d.on then (if inF file then { d.burnD 1 with F := upd d.F file.toNat [] } else d) else d
def DS.wipeE (d : DS) (file : Int) : Int := if d.on then (if inF file then d.burnE 1 else 51) else 50
theorem DS.burnF (d : DS) (n : Nat) : (d.burnD n).F = d.F := by unfold DS.burnD; split; rfl; split <;> rfl

/-- behind a call: the disk, what may have turned, and its blocks -/
def Did (w w' : World) (g : Nat) (S : Nat → Value) (d' : DS) : Prop :=
  ∃ S', Dk w' g S' d' ∧ Only (Ft g S) w w' ∧ ∀ k, Ft g S' k → Ft g S k ∨ w.heap.size ≤ k
theorem Did.same {w w' : World} {g : Nat} {S : Nat → Value} {d' : DS} (h : Dk w' g S d') (ho : Only (fun k => k = g) w w') : Did w w' g S d' :=
  ⟨S, h, ho.mono (fun k hk => .inl hk), fun k hk => .inl hk⟩

set_option maxHeartbeats 2000000 in
theorem wipe_any (g : Nat) (S : Nat → Value) (d : DS) (file : Int) (w : World) (h : Dk w g S d) :
    Calls Try.prog 34 #[.pointer (some ⟨g, 0, none⟩), .int .i64 file] w fun e w' => e = .returned (.int .i64 (d.wipeE file)) ∧ Did w w' g S (d.wipeD file) := by
  have hm := file_any g S d file w h
  have hb := burn_any g S d 1 w h (by decide)
  have H0 := hide h
  clear h
  unfold DS.checkF at hm
  unfold DS.wipeE DS.wipeD
  cases hon : d.on
  · rw [hon] at hm
    go_enter Try.func34, Try.ntmps34
    go_wp2_with (go_at_call 39; refine hm.mono ?_; rintro e w' ⟨rfl, rfl⟩)
    go_ret
    exact ⟨rfl, Did.same (unhide H0) (Only.refl _ _)⟩
  · by_cases hf : inF file
    · have hf' := hf
      unfold inF at hf'
      rw [hon, if_pos rfl, if_pos hf'] at hm
      simp only [hf, if_true]
      obtain ⟨h0, h3⟩ := hf'
      clear hf
      have fin : ∀ i : Nat, i < 3 → ∀ w1, Dk w1 g S (d.burnD 1) → Only (fun k => k = g) w w1 → Did w (w1.setCell ⟨g, i, none⟩ (.slice none 0 0)) g S { d.burnD 1 with F := upd d.F i [] } := by
        intro i hi w1 hd ho
        have := hd.wiped i hi
        rw [DS.burnF] at this
        exact ⟨_, this, (ho.mono (fun k hk => .inl hk)).set g i _ (.inl rfl), fun k hk => Ft.upd (n := w.heap.size) hi (.inl rfl) hk⟩
      have HF := hide fin
      clear fin H0
      rcases (show file = 0 ∨ file = 1 ∨ file = 2 by omega) with rfl | rfl | rfl
      · go_enter Try.func34, Try.ntmps34
        go_wp2_with fail
        refine hm.mono ?_
        rintro e w' ⟨rfl, rfl⟩
        go_wp2_with fail
        refine hb.mono ?_
        rintro e w1 ⟨rfl, hd, ho⟩
        have q := hide (unhide HF 0 (by decide) w1 hd ho)
        obtain ⟨c0, c1, c2, -, -, -, z0, z1, z2, -, -, -⟩ := hd.cells
        clear hd ho
        go_wp2
        go_ret
        exact ⟨rfl, unhide q⟩
      · go_enter Try.func34, Try.ntmps34
        go_wp2_with fail
        refine hm.mono ?_
        rintro e w' ⟨rfl, rfl⟩
        go_wp2_with fail
        refine hb.mono ?_
        rintro e w1 ⟨rfl, hd, ho⟩
        have q := hide (unhide HF 1 (by decide) w1 hd ho)
        obtain ⟨c0, c1, c2, -, -, -, z0, z1, z2, -, -, -⟩ := hd.cells
        clear hd ho
        go_wp2
        go_ret
        exact ⟨rfl, unhide q⟩
      · go_enter Try.func34, Try.ntmps34
        go_wp2_with fail
        refine hm.mono ?_
        rintro e w' ⟨rfl, rfl⟩
        go_wp2_with fail
        refine hb.mono ?_
        rintro e w1 ⟨rfl, hd, ho⟩
        have q := hide (unhide HF 2 (by decide) w1 hd ho)
        obtain ⟨c0, c1, c2, -, -, -, z0, z1, z2, -, -, -⟩ := hd.cells
        clear hd ho
        go_wp2
        go_ret
        exact ⟨rfl, unhide q⟩
    · have hf' := hf
      unfold inF at hf'
      rw [hon, if_pos rfl, if_neg hf'] at hm
      simp only [hf, if_true, if_false]
      go_enter Try.func34, Try.ntmps34
      go_wp2_with (go_at_call 39; refine hm.mono ?_; rintro e w' ⟨rfl, rfl⟩)
      go_ret
      exact ⟨rfl, Did.same (unhide H0) (Only.refl _ _)⟩

set_option maxHeartbeats 1000000 in
theorem clone_any (v : Value) (l : List Nat) (w : World) (hv : Byt w v l) (hl : l.length ≤ 1000000000) :
    Calls Try.prog 13 #[v] w fun e w' => ∃ v', e = .returned v' ∧ w'.ownsRow w.heap.size 5 1 v' l.length (bv l) ∧ Below w.heap.size w w' := by
  obtain ⟨i0, hi, hz0, hz1, hz2⟩ := info_parts info5
  rcases hv with ⟨rfl, rfl⟩ | ⟨a, cap, rfl, h1, h2, h3⟩
  · have hq := fun W => Go.run_eql_slice_nil (P := Try.prog) W 32 5 none 0 0 Try.underlying32
    go_enter Try.func13, Try.ntmps13
    go_wp2
    go_ret
    exact ⟨_, rfl, ⟨rfl, .inl ⟨rfl, rfl⟩⟩, Below.refl _ _⟩
  · have hq := fun W => Go.run_eql_slice_nil (P := Try.prog) W 32 5 (some a) l.length cap Try.underlying32
    have hB : Below w.heap.size w (w.alloc (.cells #[] 5)) := (Below.refl _ _).alloc (Nat.le_refl _) _
    have hnews := Byt.news h3
    generalize hn : l.length = n at *
    have HN := hide hnews
    have HL := hide hn
    clear hnews h3 hn
    have hown : (w.alloc (.cells #[] 5)).ownsRow w.heap.size 5 1 (.slice (some ⟨w.heap.size, 0, none⟩) 0 0) 0 [] := World.ownsRow_made w #[] 0 (Nat.le_refl _) (Nat.zero_le _) rfl
    go_enter Try.func13, Try.ntmps13
    go_wp2_with (at_builtin; refine wpList_append_own _ rfl _ _ 32 rfl w.heap.size 5 i0 (.int .u8 0) 1 1 Try.underlying32 hi hz0 hz1 hz2 rfl (by decide) _ _ _ rfl hown a n cap (bv l) rfl ?c0 ?c1 ?c2 ?c3 ?c4 ?c5 ?_)
    case c0 => rw [bv_len, unhide HL]; omega
    case c1 =>
      intro j u hj
      have := unhide HN j u hj
      exact cell_keep hB (lt_of_cell this) this
    case c2 => exact bv_one l
    case c3 => unfold maxLen; omega
    case c4 => omega
    case c5 => simp
    intro v' w2 hown' hgrow' _
    go_wp2
    go_ret
    refine ⟨_, rfl, ?_, ?_⟩
    · simpa using hown'
    · exact hB.grown hgrow' hB.size (fun k hk => by simp [Value.ownBlock] at hk; omega)

theorem DS.Ok.len {d : DS} (h : d.Ok) (i : Nat) (hi : i < 3) : (d.F i).length ≤ 16777216 := by
  have := h.used
  have := h.room2
  unfold DS.used at *
  match i, hi with
  | 0, _ => omega
  | 1, _ => omega
  | 2, _ => omega

set_option maxHeartbeats 1000000 in
theorem read_ok (g : Nat) (S : Nat → Value) (d : DS) (i : Nat) (w : World) (h : Dk w g S d) (hon : d.on = true) (hi : i < 3) :
    Calls Try.prog 22 #[.pointer (some ⟨g, 0, none⟩), .int .i64 (i : Int)] w fun e w' => ∃ v', e = .returned (.tuple #[v', .int .i64 0]) ∧ w'.ownsRow w.heap.size 5 1 v' (d.F i).length (bv (d.F i)) ∧ Below w.heap.size w w' := by
  have hm := file_any g S d i w h
  unfold DS.checkF at hm
  rw [hon, if_pos rfl, if_pos (by omega)] at hm
  have hc := clone_any (S i) (d.F i) w (Byt.of_own (h.rows.own i hi)) (Nat.le_trans (h.ok.len i hi) (by decide))
  obtain ⟨a, cap, hS⟩ := h.shape i hi
  obtain ⟨c0, c1, c2, -, -, -, z0, z1, z2, -, -, -⟩ := h.cells
  clear h
  generalize d.F i = l at *
  rcases (show i = 0 ∨ i = 1 ∨ i = 2 by omega) with rfl | rfl | rfl
  · rw [hS] at c0 hc
    go_enter Try.func22, Try.ntmps22
    go_wp2_with fail
    refine hm.mono ?_
    rintro e w' ⟨rfl, rfl⟩
    go_wp2_with fail
    refine hc.mono ?_
    rintro e w2 ⟨v2, rfl, ho, hb⟩
    obtain ⟨a2, cap2, rfl⟩ := byt_shape (Byt.of_own ho)
    go_wp2
    go_ret2
    exact ⟨_, rfl, ho, hb⟩
  · rw [hS] at c1 hc
    go_enter Try.func22, Try.ntmps22
    go_wp2_with fail
    refine hm.mono ?_
    rintro e w' ⟨rfl, rfl⟩
    go_wp2_with fail
    refine hc.mono ?_
    rintro e w2 ⟨v2, rfl, ho, hb⟩
    obtain ⟨a2, cap2, rfl⟩ := byt_shape (Byt.of_own ho)
    go_wp2
    go_ret2
    exact ⟨_, rfl, ho, hb⟩
  · rw [hS] at c2 hc
    go_enter Try.func22, Try.ntmps22
    go_wp2_with fail
    refine hm.mono ?_
    rintro e w' ⟨rfl, rfl⟩
    go_wp2_with fail
    refine hc.mono ?_
    rintro e w2 ⟨v2, rfl, ho, hb⟩
    obtain ⟨a2, cap2, rfl⟩ := byt_shape (Byt.of_own ho)
    go_wp2
    go_ret2
    exact ⟨_, rfl, ho, hb⟩
set_option maxHeartbeats 1000000 in
theorem read_bad (g : Nat) (S : Nat → Value) (d : DS) (file : Int) (w : World) (h : Dk w g S d) (hbad : d.on = false ∨ ¬ inF file) :
    Calls Try.prog 22 #[.pointer (some ⟨g, 0, none⟩), .int .i64 file] w fun e w' => e = .returned (.tuple #[.slice none 0 0, .int .i64 (d.checkF file)]) ∧ w = w' := by
  have hm := file_any g S d file w h
  have hne : ¬ (d.checkF file = 0) := by
    unfold DS.checkF
    rcases hbad with hb | hb
    · simp [hb]
    · unfold inF at hb
      cases d.on <;> simp [hb]
  generalize d.checkF file = c at *
  go_enter Try.func22, Try.ntmps22
  go_wp2_with (go_at_call 39; refine hm.mono ?_; rintro e w' ⟨rfl, rfl⟩)
  go_ret2
  exact ⟨rfl, rfl⟩
end Go.Proofs.Ytadjgljimikodaa
