/- Calls in memory of one's own: cloned, and others put behind them. -/
import Derived.Test.YtadjgljimikodaaFam
namespace Go.Proofs.Ytadjgljimikodaa
set_option linter.unusedVariables false
set_option linter.unusedSimpArgs false
open Go.ChangeShapes Go.WideShapes Go.ChangeAt Go.RowKit

theorem run_append_none {P : Program} (w : World) (t ty e : TypeId) (i : TypeInfo) (ht : P.underlying t = some (.slice e)) (hi : P.info? e = some i) (base : Option Addr) (sLen sCap c : Nat) (hle : sLen ≤ sCap) :
    (Builtin.append_ #[t, t] ty #[.slice base sLen sCap, .slice none 0 c]).run P w = .ok (.slice base sLen sCap) w := by
  cases base <;> simp [Builtin.append_, run_underlying ht, sizeOf, typeInfo, hi, Builtin.lenOf, Builtin.firstCells, loadCells, loadCellsFrom, hle, storeCells]

theorem wpList_append_src {P : Program} (w : World) {ops : Array Oper} {rest : List Oper} {o : Oper} {a : Act} {Q : Exit → Act → World → Prop} (hgd : o.guard = none) (s x : Operand) (t : TypeId)
    (ho : o.op = .call { callee := .builtin .append, args := #[s, x], argTypes := #[t, t] })
    (base : Nat) (e : TypeId) (i : TypeInfo) (z : Value) (size bytes : Nat) (ht : P.underlying t = some (.slice e)) (hi : P.info? e = some i) (hz : i.zero = some z)
    (hsize : i.size = size) (hby : i.bytes = bytes) (hzs : z.cells.size = size) (hsz : 0 < size)
    (v : Value) (n : Nat) (xs : List Value) (hs : a.eval s = v) (hown : w.ownsRow base e size v n xs)
    (ad : Option Addr) (m c : Nat) (news : List Value) (hx : a.eval x = .slice ad m c) (hl : news.length = m * size) (hnone : ad = none → m = 0) (hnews : ∀ b, ad = some b → ∀ j u, news[j]? = some u → w.cell? (b.add j) = some u) (h1 : ∀ u ∈ news, u.oneCell' = true)
    (h63 : n + m ≤ maxLen) (hbytes : (n + m) * bytes ≤ 140737488355328) (hbase : base ≤ w.heap.size)
    (h : ∀ ad' cap w', w'.ownsRow base e size (.slice ad' (n + m) cap) (n + m) (xs ++ news) → w.grownBy w' v.ownBlock → wpList P ops Q rest (a.put o.dst (.slice ad' (n + m) cap)) w') :
    wpList P ops Q (o :: rest) a w := by
  refine wpList_plain hgd fun K hK => ?_
  obtain ⟨ad', cap, w', hr, h2, h3⟩ : ∃ ad' cap w', (Builtin.append_ #[t, t] o.type #[v, .slice ad m c]).run P w = .ok (.slice ad' (n + m) cap) w' ∧ w'.ownsRow base e size (.slice ad' (n + m) cap) (n + m) (xs ++ news) ∧ w.grownBy w' v.ownBlock := by
    cases ad with
    | none =>
      have hm := hnone rfl
      subst hm
      have hn0 : news = [] := List.eq_nil_of_length_eq_zero (by simpa using hl)
      subst hn0
      obtain ⟨b, cap, hv, hle⟩ : ∃ b cap, v = .slice b n cap ∧ n ≤ cap := by
        rcases hown.2 with ⟨rfl, rfl⟩ | ⟨g, cap, cur, rfl, _, _, hle, _⟩
        · exact ⟨none, 0, rfl, Nat.le_refl _⟩
        · exact ⟨_, cap, rfl, hle⟩
      subst hv
      refine ⟨b, cap, w, run_append_none w t o.type e i ht hi b n cap c hle, ?_, ⟨rfl, rfl, rfl, Nat.le_refl _, fun _ _ _ => rfl⟩⟩
      simpa using hown
    | some b =>
      obtain ⟨v', w', hr, h2, h3, _, _⟩ := run_append_own_at (P := P) w base t o.type e i z size bytes ht hi hz hsize hby hzs hsz v n xs hown b m c news hl (hnews b rfl) h1 h63 hbytes hbase
      obtain ⟨ad', cap, rfl⟩ : ∃ ad' cap, v' = .slice ad' (n + m) cap := by
        rcases h2.2 with ⟨rfl, h0⟩ | ⟨g, cap, cur, rfl, _⟩
        · exact ⟨none, 0, by rw [h0]⟩
        · exact ⟨_, cap, rfl⟩
      exact ⟨ad', cap, w', hr, h2, h3⟩
  unfold Oper.wp execOp
  simp only [ho, resolve, invoke, builtin, Sem.run_bind, Sem.run_pure, Result.andThen_ok, List.map_toArray, List.map_cons, List.map_nil, hs, hx, hr]
  exact hK _ _ (h ad' cap w' h2 h3)

def clv (c : Cl) : List Value := [.int .i64 c.op, .int .i64 c.file, .int .i64 c.n, c.v]
def clvs (L : List Cl) : List Value := L.flatMap clv
theorem clvs_len : ∀ (L : List Cl), (clvs L).length = L.length * 4 := by
  intro L
  induction L with
  | nil => rfl
  | cons c L ih =>
    simp only [clvs, List.flatMap_cons, List.length_append, List.length_cons] at ih ⊢
    rw [ih]
    simp [clv]
    omega
theorem clvs_append (L M : List Cl) : clvs (L ++ M) = clvs L ++ clvs M := by simp [clvs]
theorem clvs_get : ∀ (L : List Cl) (j : Nat), (clvs L)[j]? = (L[j / 4]?).bind fun c => (clv c)[j % 4]? := by
  intro L
  induction L with
  | nil => intro j; simp [clvs]
  | cons c L ih =>
    intro j
    have e : clvs (c :: L) = clv c ++ clvs L := rfl
    rw [e, List.getElem?_append]
    have hc : (clv c).length = 4 := rfl
    rw [hc]
    split
    · rename_i h
      have h0 : j / 4 = 0 := by omega
      have h1 : j % 4 = j := by omega
      rw [h0, h1]
      simp
    · rename_i h
      have h0 : j / 4 = (j - 4) / 4 + 1 := by omega
      have h1 : j % 4 = (j - 4) % 4 := by omega
      rw [ih, h0, h1]
      simp
theorem clvs_at {L : List Cl} {i t : Nat} {c : Cl} (h : L[i]? = some c) (ht : t < 4) : (clvs L)[i * 4 + t]? = (clv c)[t]? := by
  rw [clvs_get, show (i * 4 + t) / 4 = i by omega, show (i * 4 + t) % 4 = t by omega, h]
  rfl
theorem Dos.news {w : World} {a : Option Addr} {L : List Cl} (h : Dos w a L) : ∀ b, a = some b → ∀ j u, (clvs L)[j]? = some u → w.cell? (b.add j) = some u := by
  intro b hb j u hj
  rw [clvs_get] at hj
  cases hc : L[j / 4]? with
  | none => rw [hc] at hj; cases hj
  | some c =>
    rw [hc] at hj
    rcases h.2 with h0 | ⟨b', off, rfl, _, hx⟩
    · rw [h0] at hc; simp at hc
    · injection hb with hb
      subst hb
      obtain ⟨q0, q1, q2, q3⟩ := hx _ c hc
      rw [add_plain]
      have hlt : j % 4 < 4 := Nat.mod_lt _ (by decide)
      have hj4 : j = j / 4 * 4 + j % 4 := by omega
      generalize j % 4 = t at *
      generalize j / 4 = i at *
      subst hj4
      rw [← Nat.add_assoc]
      match t, hlt, hj with
      | 0, _, hj => simp [clv] at hj; subst hj; exact q0
      | 1, _, hj => simp [clv] at hj; subst hj; exact q1
      | 2, _, hj => simp [clv] at hj; subst hj; exact q2
      | 3, _, hj => simp [clv] at hj; subst hj; exact q3
theorem Dos.none_len {w : World} {a : Option Addr} {L : List Cl} (h : Dos w a L) : a = none → L.length = 0 := by
  intro ha
  rcases h.2 with h0 | ⟨b, off, hb, _⟩
  · rw [h0]; rfl
  · rw [ha] at hb; cases hb
theorem clvs_one {w : World} {L : List Cl} (h : ∀ c ∈ L, ClOk w c) : ∀ u ∈ clvs L, u.oneCell' = true := by
  intro u hu
  simp only [clvs, List.mem_flatMap] at hu
  obtain ⟨c, hc, hu⟩ := hu
  obtain ⟨a, cap, hv⟩ := byt_shape (h c hc).byt
  simp only [clv, List.mem_cons, List.mem_nil_iff, or_false] at hu
  rcases hu with rfl | rfl | rfl | rfl
  · rfl
  · rfl
  · rfl
  · rw [hv]; rfl
theorem Dos.of_own {w : World} {base n cap : Nat} {a : Option Addr} {L : List Cl} (hn : L.length = n) (h : w.ownsRow base 34 4 (.slice a n cap) n (clvs L)) (hok : ∀ c ∈ L, ClOk w c) : Dos w a L ∧ n ≤ cap ∧ cap ≤ maxLen := by
  subst hn
  have hcl := fun g hg => h.cells (g := g) hg
  obtain ⟨_, ⟨e, h0⟩ | ⟨g, cap', cur, e, hg, hh, h1, h2, h3, h4⟩⟩ := h
  · injection e with e1 e2 e3
    subst e3
    exact ⟨⟨hok, .inl (List.length_eq_zero_iff.1 h0)⟩, by omega, Nat.zero_le _⟩
  · injection e with e1 e2 e3
    subst e1 e3
    refine ⟨⟨hok, ?_⟩, h1, h2⟩
    by_cases hz : L = []
    · exact .inl hz
    · right
      have hlt : g < w.heap.size := (Array.getElem?_eq_some_iff.1 hh).1
      refine ⟨g, 0, rfl, hlt, fun i c hc => ?_⟩
      have k : ∀ t, t < 4 → ∀ u, (clv c)[t]? = some u → w.cell? ⟨g, 0 + i * 4 + t, none⟩ = some u := by
        intro t ht u hu
        have q := hcl g rfl (i * 4 + t) u (by rw [clvs_at hc ht]; exact hu)
        rw [add_plain] at q
        rw [Nat.add_assoc]
        exact q
      exact ⟨k 0 (by decide) _ rfl, k 1 (by decide) _ rfl, k 2 (by decide) _ rfl, k 3 (by decide) _ rfl⟩
theorem info34 : (Try.prog.info? 34).map (fun i => (i.zero, i.size, i.bytes)) = some (some (.agg #[.int .i64 0, .int .i64 0, .int .i64 0, .slice none 0 0]), 4, 48) := by kernel_rfl

set_option maxHeartbeats 1000000 in
theorem dosclone_any (a : Option Addr) (L : List Cl) (cap : Nat) (w : World) (h : Dos w a L) (hl : L.length ≤ 200) :
    Calls Try.prog 32 #[.slice a L.length cap] w fun e w' => ∃ a' cap', e = .returned (.slice a' L.length cap') ∧ w'.ownsRow w.heap.size 34 4 (.slice a' L.length cap') L.length (clvs L) ∧ Below w.heap.size w w' := by
  obtain ⟨i0, hi, hz0, hz1, hz2⟩ := info_parts info34
  have hnews := h.news
  have hnone := h.none_len
  have hone := clvs_one h.1
  have hlen := clvs_len L
  cases a with
  | none =>
    have h0 := hnone rfl
    have hL : L = [] := List.length_eq_zero_iff.1 h0
    subst hL
    have hq := fun W => Go.run_eql_slice_nil (P := Try.prog) W 22 34 none 0 cap Try.underlying22
    rw [List.length_nil]
    go_enter Try.func32, Try.ntmps32
    go_wp2
    go_ret
    exact ⟨none, 0, rfl, ⟨rfl, .inl ⟨rfl, rfl⟩⟩, Below.refl _ _⟩
  | some b =>
    have hq := fun W => Go.run_eql_slice_nil (P := Try.prog) W 22 34 (some b) L.length cap Try.underlying22
    have hB : Below w.heap.size w (w.alloc (.cells #[] 34)) := (Below.refl _ _).alloc (Nat.le_refl _) _
    have hN := hide (hnews b rfl)
    have hL := hide hlen
    have hO := hide hone
    clear hnews hlen hone h hnone
    generalize L.length = n at *
    have hown : (w.alloc (.cells #[] 34)).ownsRow w.heap.size 34 4 (.slice (some ⟨w.heap.size, 0, none⟩) 0 0) 0 [] := World.ownsRow_made w #[] 0 (Nat.le_refl _) (Nat.zero_le _) rfl
    go_enter Try.func32, Try.ntmps32
    go_wp2_with (at_builtin; refine wpList_append_src _ rfl _ _ 22 rfl w.heap.size 34 i0 _ 4 48 Try.underlying22 hi hz0 hz1 hz2 rfl (by decide) _ _ _ rfl hown (some b) n cap (clvs L) rfl ?c0 ?c6 ?c1 ?c2 ?c3 ?c4 ?c5 ?_)
    case c0 => exact unhide hL
    case c6 => intro q; cases q
    case c1 =>
      intro b' hb' j u hj
      injection hb' with hb'
      subst hb'
      have := unhide hN j u hj
      exact cell_keep hB (lt_of_cell this) this
    case c2 => exact unhide hO
    case c3 => unfold maxLen; omega
    case c4 => omega
    case c5 => simp
    intro a' cap' w2 hown' hgrow'
    go_wp2
    go_ret
    refine ⟨a', cap', by simp, ?_, ?_⟩
    · simpa using hown'
    · exact hB.grown hgrow' hB.size (fun k hk => by simp [Value.ownBlock] at hk; omega)
end Go.Proofs.Ytadjgljimikodaa
