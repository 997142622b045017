/- How calls come in: a list of them; whether they may be gone through. -/
import Derived.Test.YtmkpphkdaiienaaCOp
namespace Go.Proofs.Ytmkpphkdaiienaa
set_option linter.unusedVariables false
set_option linter.unusedSimpArgs false
open Go.ChangeShapes Go.WideShapes Go.ChangeAt Go.RowKit Go.Joins Go.Deep

structure Cl where
  op : Int
  conn : Int
  seq : Int
  ack : Int
  v : Value
  b : List Nat
structure ClOk (w : World) (c : Cl) : Prop where
  byt : Byt w c.v c.b
  seq : c.seq ≤ 9223372036854775807
  b256 : ∀ y ∈ c.b, y < 256
def Cl.cs (c : Cl) : List Value := [.int .i64 c.op, .int .i64 c.conn, .int .i64 c.seq, .int .i64 c.ack, c.v]
def ClAt (w : World) (b off : Nat) (c : Cl) : Prop := ∀ f u, c.cs[f]? = some u → w.cell? ⟨b, off + f, none⟩ = some u
def Dos (w : World) (a : Option Addr) (L : List Cl) : Prop :=
  (∀ c ∈ L, ClOk w c) ∧ (L = [] ∨ ∃ b off, a = some ⟨b, off, none⟩ ∧ b < w.heap.size ∧ ∀ i c, L[i]? = some c → ClAt w b (off + i * 5) c)
theorem ClOk.call {w w1 : World} {c : Cl} (h : ClOk w c) (hb : Below w.heap.size w w1) : ClOk w1 c := ⟨h.byt.call hb, h.seq, h.b256⟩
theorem Dos.call {w w1 : World} {a : Option Addr} {L : List Cl} (h : Dos w a L) (hb : Below w.heap.size w w1) : Dos w1 a L := by
  obtain ⟨h1, h2⟩ := h
  refine ⟨fun c hc => (h1 c hc).call hb, ?_⟩
  rcases h2 with h2 | ⟨b, off, rfl, hlt, h3⟩
  · exact .inl h2
  · exact .inr ⟨b, off, rfl, Nat.lt_of_lt_of_le hlt hb.size, fun i c hc f u hu => cell_keep hb hlt (h3 i c hc f u hu)⟩
/-- nothing below B has turned -/
theorem Dos.below {w w1 : World} {a : Option Addr} {L : List Cl} {B : Nat} (h : Dos w a L) (hB : w.heap.size ≤ B) (hb : Below B w w1) : Dos w1 a L := h.call (hb.mono hB)
theorem byt_lt {w : World} {v : Value} {l : List Nat} (h : Byt w v l) : l = [] ∨ ∀ k, v.ownBlock = some k → k < w.heap.size := by
  rcases h with ⟨_, rfl⟩ | ⟨a, c, rfl, h1, h2, h3⟩
  · exact .inl rfl
  · by_cases hl : l = []
    · exact .inl hl
    · right
      intro k hk
      have h0 := h3 0 _ (List.getElem?_eq_getElem (List.length_pos_iff.2 hl))
      have := lt_of_cell h0
      rw [add_block] at this
      have e : a.block = k := by simpa [Value.ownBlock] using hk
      omega
theorem cells36 : Try.prog.cellsOf 36 = 5 := by kernel_rfl
set_option maxRecDepth 100000 in
theorem open_nest {H : Type} {enc : TypeId × Value → H} {w : World} {base : Nat} {spare : Nat → Bool} {held : Bool} {fuel : Nat} {cs : List Value} {x : DataW H × List MemPlace}
    (h : DataW.trod enc Try.prog w base spare held fuel 22 cs = some x) :
    cs = [.slice none 0 0] ∨ ∃ (a : Addr) (len cap : Nat), cs = [.slice (some a) len cap] ∧ len ≤ cap ∧ cap ≤ maxLen ∧
      ∀ i, i < len → ∃ c : Cl, ClOk w c ∧ ∀ f u, c.cs[f]? = some u → w.cell? (a.add (i * 5 + f)) = some u := by
  rcases open_slice Try.underlying22 h with h0 | ⟨a, len, cap, m, n, D, Pl, rfl, hb, hl, hm, hmm, rfl, hx⟩
  · exact Or.inl h0.1
  right
  have hlm : len ≤ m := by rw [hmm]; split <;> omega
  refine ⟨a, len, cap, rfl, hl, hm, fun i hi => ?_⟩
  obtain ⟨cs', h1, h2⟩ := hx i (by omega)
  rw [cells36] at h1
  obtain ⟨_, hlen, hcell⟩ := World.cells?_some h1
  obtain ⟨xs, k, hk, hxy, _, hxl, hf⟩ := DataW.trod_struct Try.underlying36 h2
  match xs, hxl, cs', hlen with
  | [y0, y1], _, [v0, v1, v2, v3, v4], _ =>
    have g0 := hf 0 _ rfl
    have g1 := hf 1 _ rfl
    have c3 : Try.prog.cellsOf 3 = 1 := by kernel_rfl
    simp [c3, cells34] at g0 g1
    obtain ⟨zs, k2, hk2, hz, _, hzl, hf2⟩ := DataW.trod_struct Try.underlying34 g1
    match zs, hzl with
    | [z0, z1, z2, z3], _ =>
      have t0 := hf2 0 _ rfl
      have t1 := hf2 1 _ rfl
      have t2 := hf2 2 _ rfl
      have t3 := hf2 3 _ rfl
      have c32 : Try.prog.cellsOf 32 = 1 := by kernel_rfl
      simp [c3, c32] at t0 t1 t2 t3
      obtain ⟨x0, e0, k0, w0⟩ := DataW.trod_int Try.underlying3 g0
      obtain ⟨x1, e1, k1, w1⟩ := DataW.trod_int Try.underlying3 t0
      obtain ⟨x2, e2, k2', w2⟩ := DataW.trod_int Try.underlying3 t1
      obtain ⟨x3, e3, k3, w3⟩ := DataW.trod_int Try.underlying3 t2
      obtain ⟨l, hl', h256⟩ := bytes_of t3
      simp at e0 e1 e2 e3
      subst e0 e1 e2 e3
      refine ⟨⟨x0, x1, x2, x3, v4, l⟩, ⟨hl', (bounds_i64 w2).2, h256⟩, fun f u hu => ?_⟩
      have hlt : f < 5 := (List.getElem?_eq_some_iff.1 hu).1
      have := hcell f (by omega)
      rw [add_add] at this
      rw [this]
      simpa [Cl.cs] using hu
set_option maxRecDepth 100000 in
theorem open_dos {H : Type} {enc : TypeId × Value → H} {W : World} {b0 base : Nat} {spare : Nat → Bool} {held : Bool} {v : Value} {d : DataW H} {p : List MemPlace}
    (hv : Value.okWide Try.prog W .any b0 22 v) (h : DataW.Trod enc Try.prog W base spare held 22 v d p) :
    ∃ (a : Option Addr) (L : List Cl) (cap : Nat), v = .slice a L.length cap ∧ L.length ≤ cap ∧ cap ≤ maxLen ∧ Dos W a L := by
  obtain ⟨a, n, c, rfl⟩ := okWide_slice Try.underlying22 hv
  obtain ⟨fuel, hf⟩ := h
  rcases open_nest hf with hcs | ⟨a, len, cap, hcs, hl, hm, hx⟩
  · simp [Value.cells] at hcs
    obtain ⟨rfl, rfl, rfl⟩ := hcs
    exact ⟨none, [], 0, rfl, Nat.le_refl _, Nat.zero_le _, ⟨fun c hc => (List.not_mem_nil hc).elim, Or.inl rfl⟩⟩
  · simp [Value.cells] at hcs
    obtain ⟨rfl, rfl, rfl⟩ := hcs
    obtain ⟨L, hL, hp⟩ := list_of hx
    refine ⟨some a, L, c, by rw [hL], by rw [hL]; exact hl, hm, ?_, ?_⟩
    · intro q hq
      obtain ⟨i, hi⟩ := List.getElem?_of_mem hq
      exact (hp i q hi).1
    · by_cases hz : L = []
      · exact .inl hz
      · right
        have hpos : 0 < L.length := List.length_pos_iff.2 hz
        have q0 := (hp 0 _ (List.getElem?_eq_getElem hpos)).2 0 _ rfl
        obtain ⟨b, off, spot⟩ := a
        have hspot : spot = none := by simpa [Addr.add] using World.cell?_spot q0
        subst hspot
        refine ⟨b, off, rfl, lt_of_cell q0, fun i q hi f u hu => ?_⟩
        have := (hp i q hi).2 f u hu
        simp only [add_plain] at this
        rw [← Nat.add_assoc] at this
        exact this
def capS (L : List Cl) (k : Nat) : Nat := ((L.take k).map fun c => min c.b.length 32769).sum
def total (L : List Cl) : Nat := (L.map fun c => c.b.length).sum
theorem capS_next {L : List Cl} {k : Nat} {c : Cl} (h : L[k]? = some c) : capS L (k + 1) = capS L k + min c.b.length 32769 := by
  have hk := (List.getElem?_eq_some_iff.1 h).1
  have e := (List.getElem?_eq_some_iff.1 h).2
  rw [capS, List.take_succ_eq_append_getElem hk, List.map_append, List.sum_append, e]
  simp [capS]
theorem total_of_cap : ∀ (L : List Cl), (L.map fun c => min c.b.length 32769).sum ≤ 32768 → total L ≤ 32768 ∧ total L = (L.map fun c => min c.b.length 32769).sum := by
  intro L
  induction L with
  | nil => intro _; simp [total]
  | cons c L ih =>
    intro h
    simp only [List.map_cons, List.sum_cons] at h
    have := ih (by omega)
    unfold total at *
    simp only [List.map_cons, List.sum_cons]
    omega
theorem total_mem : ∀ {L : List Cl} {c : Cl}, c ∈ L → c.b.length ≤ total L
  | x :: r, c, h => by
    simp only [total, List.map_cons, List.sum_cons]
    rcases List.mem_cons.1 h with rfl | h
    · omega
    · have := total_mem h
      unfold total at this
      omega
def ShortR (L : List Cl) (e : Ending) : Prop := ∃ r, e = .returned (.bool r) ∧ (r = true → L.length ≤ 200 ∧ total L ≤ 32768)
set_option maxRecDepth 100000 in
set_option maxHeartbeats 4000000 in
theorem short_any (a : Option Addr) (L : List Cl) (cap : Nat) (w : World) (h : Dos w a L) (hc : L.length ≤ cap) (hm : cap ≤ maxLen) :
    Calls Try.prog 12 #[.slice a L.length cap] w fun e w' => ShortR L e ∧ w = w' := by
  unfold maxLen at hm
  have H0 := hide h
  clear h
  obtain ⟨n, hn⟩ : ∃ n, L.length = n := ⟨_, rfl⟩
  rw [hn] at hc
  rw [hn]
  have HN := hide hn
  clear hn
  go_enter Try.func12, Try.ntmps12
  go_wp2_with fail
  go_loop [3, 4] (fun s i => ∃ k : Nat, k ≤ n ∧ k ≤ 201 ∧ i = .int .i64 k ∧ s = .int .i64 (capS L k : Int) ∧ capS L k ≤ 65537) (fun _ i => n - (intOf i).toNat)
  case atStart => exact ⟨0, by omega, by omega, rfl, by simp [capS], by simp [capS]⟩
  case round =>
    obtain ⟨k, hk, hk2, rfl, rfl, hle⟩ := hrel
    by_cases g1 : k < n
    · have i1 : (k : Int) < (n : Int) := by omega
      by_cases g2 : k ≤ 200
      · have i2 : (k : Int) ≤ 200 := by omega
        by_cases g3 : capS L k ≤ 32768
        · have i3 : (capS L k : Int) ≤ 32768 := by omega
          obtain ⟨c, hc1⟩ : ∃ c, L[k]? = some c := ⟨_, List.getElem?_eq_getElem (by rw [unhide HN]; exact g1)⟩
          have hD := unhide H0
          rcases hD.2 with h0 | ⟨b, off, rfl, hlt, hx⟩
          · rw [h0] at hc1; simp at hc1
          have q3 := hx k c hc1 4 c.v rfl
          obtain ⟨a1, cap1, hv⟩ := byt_shape (hD.1 c (List.mem_of_getElem? hc1)).byt
          rw [hv] at q3
          have hnx := capS_next hc1
          have HNX := hide hnx
          clear hnx hx hD hv hc1
          generalize hcl : c.b.length = cl at *
          generalize hcs : capS L k = cs at *
          have i0 : (0 : Int) ≤ (k : Int) := by omega
          have hmin : min (cl : Int) 32769 = ((min cl 32769 : Nat) : Int) := by omega
          have hml : min cl 32769 ≤ 32769 := by omega
          generalize hmn : min cl 32769 = mn at *
          go_wp2
          go_round
          case rel =>
            refine ⟨k + 1, by omega, by omega, by go_num, ?_, by rw [unhide HNX]; omega⟩
            rw [unhide HNX]
            congr 1
            split <;> omega
          case measure => simp [intOf]; omega
        · have i3 : decide ((capS L k : Int) ≤ 32768) = false := by simp; omega
          by_cases g4 : n ≤ 200
          · have j1 : (n : Int) ≤ 200 := by omega
            generalize hcs : capS L k = cs at *
            go_wp2
            go_ret
            exact ⟨⟨false, rfl, fun hr => by cases hr⟩, rfl⟩
          · have j1 : decide ((n : Int) ≤ 200) = false := by simp; omega
            generalize hcs : capS L k = cs at *
            go_wp2
            go_ret
            exact ⟨⟨false, rfl, fun hr => by cases hr⟩, rfl⟩
      · have i2 : decide ((k : Int) ≤ 200) = false := by simp; omega
        have j1 : decide ((n : Int) ≤ 200) = false := by simp; omega
        generalize hcs : capS L k = cs at *
        go_wp2
        go_ret
        exact ⟨⟨false, rfl, fun hr => by cases hr⟩, rfl⟩
    · have i1 : decide ((k : Int) < (n : Int)) = false := by simp; omega
      have hkn : k = n := by omega
      by_cases g4 : n ≤ 200
      · have j1 : (n : Int) ≤ 200 := by omega
        by_cases g3 : capS L k ≤ 32768
        · have i3 : (capS L k : Int) ≤ 32768 := by omega
          have HT : Hid (L.length ≤ 200 ∧ total L ≤ 32768) := hide ⟨by rw [unhide HN]; exact g4, And.left <| total_of_cap L (by
            have := g3
            unfold capS at this
            rwa [List.take_of_length_le (by rw [unhide HN]; omega)] at this)⟩
          generalize hcs : capS L k = cs at *
          go_wp2
          go_ret
          exact ⟨⟨true, rfl, fun _ => unhide HT⟩, rfl⟩
        · have i3 : decide ((capS L k : Int) ≤ 32768) = false := by simp; omega
          generalize hcs : capS L k = cs at *
          go_wp2
          go_ret
          exact ⟨⟨false, rfl, fun hr => by cases hr⟩, rfl⟩
      · have j1 : decide ((n : Int) ≤ 200) = false := by simp; omega
        generalize hcs : capS L k = cs at *
        go_wp2
        go_ret
        exact ⟨⟨false, rfl, fun hr => by cases hr⟩, rfl⟩
end Go.Proofs.Ytmkpphkdaiienaa
