/- A digest that begins. -/
import Derived.Test.YtbnfilhilgjnfaaDoorAdd
namespace Go.Proofs.YtbnfilhilgjnfaaDoor
set_option linter.unusedVariables false
set_option linter.unusedSimpArgs false
open Go.ChangeShapes Go.WideShapes Go.ChangeAt Go.RowKit

theorem wpList_store_new' {P : Program} {ops : Array Oper} {rest : List Oper} {o : Oper} {a : Act} {w : World} {c : Array Value} {t : TypeId} {Q : Exit → Act → World → Prop} (hgd : o.guard = none) (ty : TypeId) (x y : Operand) (ho : o.op = .store ty x y)
    (cells : Array Value) (g : Nat) (hg : w.heap.size = g) (hx : a.eval x = .pointer (some ⟨g, 0, none⟩)) (hy : a.eval y = .agg cells) (hi : (P.info? ty).map (·.size) = some cells.size)
    (hold : c.size = cells.size) (h1 : cells.all (·.oneCell') = true)
    (h : wpList P ops Q rest (a.put o.dst undef) (w.alloc (.cells cells t))) : wpList P ops Q (o :: rest) a (w.alloc (.cells c t)) := by
  subst hg
  exact wpList_store_new hgd ty x y ho cells hx hy hi hold h1 h

def stW (k : Nat) : List Nat := firstW.set 0 (1779033703 ^^^ (16842784 ^^^ (256 * k)))
theorem stW_len (k : Nat) : (stW k).length = 8 := rfl
theorem stW_32 (k : Nat) (hk : k ≤ 32) : W32 (stW k) := first_32.set 0 (xor_lt (by decide) (xor_lt (by decide) (by omega)))

set_option maxRecDepth 100000 in
set_option maxHeartbeats 4000000 in
theorem startState_any (k : Nat) (w : World) (hT : Tabs w) (hk : k ≤ 32) :
    Calls Tryd.prog 82 #[.int .i64 (k : Int)] w fun e w' => e = .returned (.agg (u32v (stW k)).toArray) ∧ Below w.heap.size w w' := by
  have T1 : Tabs (w.alloc (.cells #[Value.int IntKind.u32 0, Value.int IntKind.u32 0, Value.int IntKind.u32 0, Value.int IntKind.u32 0, Value.int IntKind.u32 0, Value.int IntKind.u32 0, Value.int IntKind.u32 0, Value.int IntKind.u32 0] 104)) := hT.below ((Below.refl _ _).alloc (Nat.le_refl _) _)
  obtain ⟨t0, fr0, hT0⟩ := T1.1.arr rfl
  have HF1 := hide hT0
  clear hT0
  have x1 : bits .xor .u32 16842784 (256 * (k : Int)) = ((16842784 ^^^ (256 * k) : Nat) : Int) := by
    have := u32_xor_nat 16842784 (256 * k) (by decide) (by omega)
    rw [← this]; rfl
  have g1 : 16842784 ^^^ (256 * k) < 4294967296 := xor_lt (by decide) (by omega)
  have x2 : bits .xor .u32 1779033703 ((16842784 ^^^ (256 * k) : Nat) : Int) = ((1779033703 ^^^ (16842784 ^^^ (256 * k)) : Nat) : Int) := u32_xor_nat 1779033703 _ (by decide) g1
  have HE : Hid (u32v (stW k) = [.int .u32 ((1779033703 ^^^ (16842784 ^^^ (256 * k)) : Nat) : Int), .int .u32 3144134277, .int .u32 1013904242, .int .u32 2773480762, .int .u32 1359893119, .int .u32 2600822924, .int .u32 528734635, .int .u32 1541459225]) := hide rfl
  generalize 1779033703 ^^^ (16842784 ^^^ (256 * k)) = x4 at *
  generalize 16842784 ^^^ (256 * k) = x3 at *
  clear T1 hT g1
  go_enter Tryd.func82, Tryd.ntmps82
  go_wp2_with (refine wpList_load_row rfl 103 _ rfl 5 rfl t0 #[Value.int IntKind.u32 1779033703, Value.int IntKind.u32 3144134277, Value.int IntKind.u32 1013904242, Value.int IntKind.u32 2773480762, Value.int IntKind.u32 1359893119, Value.int IntKind.u32 2600822924, Value.int IntKind.u32 528734635, Value.int IntKind.u32 1541459225] fr0 _ (unhide HF1) Tryd.underlying103 rfl (by rw [z50]; rfl) ?_)
  go_returns
  exact ⟨by rw [unhide HE], ((Below.refl _ _).alloc (Nat.le_refl _) _).alloc (by rw [size_alloc]; omega) _⟩

def padK (key : List Nat) : List Nat := key ++ List.replicate (64 - key.length) 0
def kblk (key : List Nat) : List Nat := if key = [] then [] else padK key
def kheld (key : List Nat) : Nat := if key = [] then 0 else 64
theorem padK_len (key : List Nat) (h : key.length ≤ 64) : (padK key).length = 64 := by simp [padK]; omega
theorem padK_8 {key : List Nat} (h : U8 key) : U8 (padK key) := by
  intro y hy
  rcases List.mem_append.1 hy with hy | hy
  · exact h y hy
  · rw [(List.mem_replicate.1 hy).2]; decide
theorem start_dg {w : World} {g : Nat} {key : List Nat} (h8 : U8 key) (hk : key.length ≤ 32) (hr : RowAt w g 107 (dcells (stW key.length) (padK key) (kheld key) 0 true)) : Dg w g (stW key.length) (kblk key) := by
  refine ⟨0, ⟨padK key, padK_len key (by omega), padK_8 h8, by omega, ?_, ?_, ?_⟩, .inl rfl⟩
  · unfold kblk; split
    · simp
    · rw [padK_len key (by omega)]; omega
  · unfold kblk; split
    · simp
    · rw [padK_len key (by omega)]; simp [padK_len key (show key.length ≤ 64 by omega)]; rw [List.take_of_length_le (by rw [padK_len key (by omega)]; omega)]
  · have e : (kblk key).length - 64 * 0 = if key = [] then 0 else 64 := by
      unfold kblk; split
      · rfl
      · rw [padK_len key (by omega)]
    rw [e]
    exact hr

set_option maxRecDepth 100000 in
theorem info55 : (Tryd.prog.info? 107).map (·.zero) = some (some (.agg (dcells (List.replicate 8 0) (List.replicate 64 0) 0 0 false).toArray)) := by kernel_rfl
theorem zero55 (w : World) : (zeroValue 107).run Tryd.prog w = .ok (.agg (dcells (List.replicate 8 0) (List.replicate 64 0) 0 0 false).toArray) w := by
  have h := info55
  generalize (dcells (List.replicate 8 0) (List.replicate 64 0) 0 0 false).toArray = Z at *
  cases hq : Tryd.prog.info? 107 with
  | none => simp [hq] at h
  | some i => simp [hq] at h; simp [zeroValue, typeInfo, hq, h]
set_option maxRecDepth 100000 in
theorem fold55 (x : Nat) : (Array.foldl (fun cs (x : Value × Nat) => cs.setIfInBounds x.snd x.fst) (dcells (List.replicate 8 0) (List.replicate 64 0) 0 0 false).toArray (u32v (firstW.set 0 x)).toArray.zipIdx 0 8).setIfInBounds 74 (.bool true) = (dcells (firstW.set 0 x) (List.replicate 64 0) 0 0 true).toArray := by kernel_rfl
theorem wpList_build' {P : Program} {ops : Array Oper} {rest : List Oper} {o : Oper} {a : Act} {w : World} {Q : Exit → Act → World → Prop} (hg : o.guard = none) (t : TypeId) (parts : Array (Nat × Operand)) (ho : o.op = .build t parts) (cells : Array Value) (vs : List (Nat × Value)) (hvs : (parts.map fun (i, x) => (i, a.eval x)).toList = vs)
    (hf : P.built t vs = some cells) (h : wpList P ops Q rest (a.put o.dst (.agg cells)) w) : wpList P ops Q (o :: rest) a w := by
  subst hvs
  refine wpList_build hg t parts ho (by rw [hf]; rfl) ?_
  rw [hf]
  exact h

end Go.Proofs.YtbnfilhilgjnfaaDoor
