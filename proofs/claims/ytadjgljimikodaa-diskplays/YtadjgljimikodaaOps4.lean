/- What a disk's calls do, one by one: what is appended. -/
import Derived.Test.YtadjgljimikodaaOps3
import Derived.Deep.RegionHeld3
namespace Go.Proofs.Ytadjgljimikodaa
set_option linter.unusedVariables false
set_option linter.unusedSimpArgs false
open Go.ChangeShapes Go.WideShapes Go.ChangeAt Go.RowKit

theorem step_append_mine {P : Program} (w : World) {ops : Array Oper} {o : Oper} {a : Act} {K : Act → World → Prop} {Q : Exit → Act → World → Prop} {E : Prop} (hgd : o.guard = none) (s x : Operand) (t : TypeId)
    (ho : o.op = .call { callee := .builtin .append, args := #[s, x], argTypes := #[t, t] })
    (base : Nat) (e : TypeId) (i : TypeInfo) (z : Value) (size bytes : Nat) (ht : P.underlying t = some (.slice e)) (hi : P.info? e = some i) (hz : i.zero = some z)
    (hsize : i.size = size) (hby : i.bytes = bytes) (hzs : z.cells.size = size) (hsz : 0 < size)
    (v : Value) (n : Nat) (xs : List Value) (hs : a.eval s = v) (hown : w.ownsRow base e size v n xs)
    (ad : Addr) (m c : Nat) (news : List Value) (hx : a.eval x = .slice (some ad) m c) (hl : news.length = m * size) (hnews : ∀ j u, news[j]? = some u → w.cell? (ad.add j) = some u) (h1 : ∀ u ∈ news, u.oneCell' = true)
    (h63 : n + m ≤ maxLen) (hbytes : (n + m) * bytes ≤ 140737488355328) (hbase : base ≤ w.heap.size)
    (h : ∀ ad' cap w', w'.ownsRow base e size (.slice ad' (n + m) cap) (n + m) (xs ++ news) → w.grownBy w' v.ownBlock → (Value.ownBlock (.slice ad' (n + m) cap) = v.ownBlock ∨ Value.ownBlock (.slice ad' (n + m) cap) = some w.heap.size) → K (a.put o.dst (.slice ad' (n + m) cap)) w') :
    if Region.wanted o (yielded ops a.tmps) = true then Oper.wp P o a w K Q else E := by
  have hw : Region.wanted o (yielded ops a.tmps) = true := by simp [Region.wanted, hgd]
  rw [if_pos hw]
  obtain ⟨v', w', hr, h2, h3, _, h5⟩ := run_append_own_at (P := P) w base t o.type e i z size bytes ht hi hz hsize hby hzs hsz v n xs hown ad m c news hl hnews h1 h63 hbytes hbase
  obtain ⟨ad', cap, rfl⟩ : ∃ ad' cap, v' = .slice ad' (n + m) cap := by
    rcases h2.2 with ⟨rfl, h0⟩ | ⟨g, cap, cur, rfl, _⟩
    · exact ⟨none, 0, by rw [h0]⟩
    · exact ⟨_, cap, rfl⟩
  unfold Oper.wp execOp
  simp only [ho, resolve, invoke, builtin, Sem.run_bind, Sem.run_pure, Result.andThen_ok, List.map_toArray, List.map_cons, List.map_nil, hs, hx, hr]
  exact h ad' cap w' h2 h3 h5

def DS.appE (d : DS) (file : Int) (n : Nat) : Int := if d.on then (if inF file then (if d.room < d.used + n then 7 else d.burnE n) else 51) else 50
def DS.put (d : DS) (i : Nat) (l : List Nat) : DS := { d.burnD l.length with F := upd d.F i (d.F i ++ l.take (d.burnN l.length)) }
def DS.appD (d : DS) (file : Int) (l : List Nat) : DS := if d.on then (if inF file then (if d.room < d.used + l.length then d else d.put file.toNat l) else d) else d
theorem DS.burnN_le (d : DS) (n : Nat) : d.burnN n ≤ n := by unfold DS.burnN; split <;> omega
theorem DS.burn_room (d : DS) (n : Nat) : (d.burnD n).room = d.room := by unfold DS.burnD; split; rfl; split <;> rfl

theorem own_drew {w : World} {b n : Nat} {v : Value} {xs : List Value} (h : w.ownsRow b 5 1 v n xs) : w.drew.ownsRow b 5 1 v n xs := h

/-- what is stored at a file's place -/
theorem fin_app {w w2 w3 : World} {g i m : Nat} {S : Nat → Value} {d : DS} {l : List Nat} {v : Value} (hi : i < 3) (hd : Dk w2 g S (d.burnD l.length)) (ho : Only (fun k => k = g) w w2) (hfit : d.used + l.length ≤ d.room)
    (hm : d.burnN l.length = m) (hown : w3.ownsRow 0 5 1 v ((d.F i).length + m) (bv (d.F i) ++ bv (l.take m))) (hgr : w2.grownBy w3 (S i).ownBlock) (hat : v.ownBlock = (S i).ownBlock ∨ v.ownBlock = some w2.heap.size) :
    Did w (w3.setCell ⟨g, i, none⟩ v) g S (d.put i l) := by
  have hle : m ≤ l.length := hm ▸ d.burnN_le l.length
  have hlen : (d.F i ++ l.take m).length = (d.F i).length + m := by rw [List.length_append, List.length_take]; omega
  rw [← bv_append] at hown
  have hown' : w3.ownsRow 0 5 1 v (d.F i ++ l.take m).length (bv (d.F i ++ l.take m)) := own_cast hown hlen.symm rfl
  have hrows := (hd.rows.upd hi hd.cells.lt hown' hgr (.inr hat)).setG i v
  rw [DS.burnF] at hrows
  have hcells := (hd.cells.keep (hgr.block g hd.cells.lt (fun e => hd.rows.far i hi e.symm))).setFile i hi v
  refine ⟨upd S i v, ⟨?_, ?_, ?_⟩, ?_, ?_⟩
  · exact hcells
  · unfold DS.put; rw [hm]; exact hrows
  · refine ⟨hd.ok.room1, hd.ok.room2, ?_, hd.ok.fuse⟩
    rw [show (d.put i l).room = d.room from d.burn_room _]
    refine Nat.le_trans ?_ hfit
    simp only [DS.put, DS.used, hm, upd]
    match i, hi with
    | 0, _ => simp [List.length_take]; omega
    | 1, _ => simp [List.length_take]; omega
    | 2, _ => simp [List.length_take]; omega
  · refine Only.set ?_ g i v (.inl rfl)
    exact (ho.mono (fun k hk => .inl hk)).trans (Only.of_grown hgr (fun k hk => .inr ⟨i, hi, hk⟩))
  · intro k hk
    rcases Ft.upd hi (.inr hat) hk with h1 | h1
    · exact .inl h1
    · exact .inr (Nat.le_trans ho.size h1)
end Go.Proofs.Ytadjgljimikodaa
