/- Words turned to the right, in the document's answer: contracts; the model's bit operations on words. -/
import Derived.Test.YtllhljhbnopafaaDoorShaMath
import Derived.WalkKit
import Derived.BigRegion
import Derived.BigQuiet
import Derived.StillTailTactics
import Derived.Deep.DeepCutAuto
import Derived.Lib.Hide
import Derived.Laws.BitsAllLaws
namespace Go.Proofs.YtllhljhbnopafaaDoor
open Go.ChangeShapes Go.WideShapes Go.ChangeAt Go.RowKit
open SM
set_option maxHeartbeats 400000 in
theorem rr_any (x n : Nat) (hx : x < 4294967296) (h1 : 1 ≤ n) (h2 : n < 32) (w : World) :
    Calls Tryd.prog 31 #[.int .u32 x, .int .u64 n] w fun e w' => e = .returned (.int .u32 (rr x n)) ∧ w = w' := by
  go_enter Tryd.func31, Tryd.ntmps31
  go_wp2_with fail
  go_ret
  refine ⟨?_, rfl⟩
  have e1 : ((x : Int) / 2 ^ n) = ((x / 2 ^ n : Nat) : Int) := by simp
  have e2 : ((x : Int) * 2 ^ (32 - n) % 4294967296) = ((x * 2 ^ (32 - n) % 4294967296 : Nat) : Int) := by simp
  show Ending.returned (Value.int IntKind.u32 (bits BinOp.or IntKind.u32 ((x : Int) / 2 ^ n) ((x : Int) * 2 ^ (32 - n) % 4294967296))) = _
  rw [e1, e2, u32_or_nat _ _ (Nat.lt_of_le_of_lt (Nat.div_le_self _ _) hx) (Nat.mod_lt _ (by omega))]
  rfl

/- Rows of words by value, and in memory. -/
def row32 (l : List Nat) : List Value := l.map fun n : Nat => Value.int .u32 (n : Int)
theorem row32_len (l : List Nat) : (row32 l).length = l.length := by unfold row32; simp
theorem row32_val (l : List Nat) (k : Nat) (h : k < l.length) : (row32 l)[k]? = some (.int .u32 ((gb l k : Nat) : Int)) := by
  unfold row32 gb; rw [List.getElem?_map, List.getD_eq_getElem?_getD, List.getElem?_eq_getElem h]; rfl
theorem row32_set (l : List Nat) (k v : Nat) : (row32 l).set k (.int .u32 (v : Int)) = row32 (l.set k v) := by
  unfold row32; simp
theorem row32_one (l : List Nat) : (row32 l).toArray.all (·.oneCell') = true := by
  unfold row32; simp [Value.oneCell']
/-- The table of the document's answer lies in its place. -/
def Tab (w : World) : Prop := ∀ t, t < 64 → w.cell? ⟨0, t, none⟩ = some (.int .u32 ((gb kk t : Nat) : Int))
theorem Tab.lt {w : World} (h : Tab w) : 0 < w.heap.size := World.block_lt_of_cell? w _ (h 0 (by omega))
theorem Tab.keep {w w' : World} (h : Tab w) (hk : w'.heap[0]? = w.heap[0]?) : Tab w' := fun t ht => by
  rw [World.cell?_of_block (w := w) hk]; exact h t ht
theorem Tab.below {w w' : World} (h : Tab w) (hb : Below w.heap.size w w') : Tab w' := h.keep (hb.block _ h.lt)
theorem Tab.grown {w w' : World} {b : Nat} (h : Tab w) (hb : w.grownBy w' (some b)) (hne : b ≠ 0) : Tab w' := h.keep (hb.block _ h.lt (by simp; omega))
theorem infoW8 : (Tryd.prog.info? 54).map (·.size) = some 8 := by kernel_rfl
theorem infoW64 : (Tryd.prog.info? 63).map (·.size) = some 64 := by kernel_rfl
end Go.Proofs.YtllhljhbnopafaaDoor
