/- Rows of bytes by value: an array's cells as a list of numbers. -/
import Derived.Test.YtllhljhbnopafaaDoorRows
import Derived.WalkKit
import Derived.ProofKit
import Derived.Lib.Hide
import Derived.Deep.MidRow
namespace Go.Proofs.YtllhljhbnopafaaDoor
open Go.ChangeShapes Go.WideShapes Go.ChangeAt Go.RowKit
def row8 (l : List Nat) : List Value := l.map fun n : Nat => Value.int .u8 (n : Int)
theorem row8_len (l : List Nat) : (row8 l).length = l.length := by unfold row8; simp
theorem row8_at (l : List Nat) (k : Nat) : (row8 l).toArray[k]? = (l[k]?).map (fun n : Nat => Value.int .u8 (n : Int)) := by unfold row8; simp
def gb (l : List Nat) (k : Nat) : Nat := l.getD k 0
theorem row8_get (l : List Nat) (k : Nat) (h : k < l.length) : (row8 l).toArray[k]? = some (.int .u8 ((gb l k : Nat) : Int)) := by
  rw [row8_at]; unfold gb; rw [List.getD_eq_getElem?_getD, List.getElem?_eq_getElem h]; rfl
theorem row8_set (l : List Nat) (k v : Nat) : (row8 l).set k (.int .u8 (v : Int)) = row8 (l.set k v) := by
  unfold row8; simp
def Bytes (n : Nat) (l : List Nat) : Prop := l.length = n ∧ ∀ k, gb l k < 256
theorem bytes_zero (n : Nat) : Bytes n (List.replicate n 0) := by
  refine ⟨by simp, fun k => ?_⟩
  unfold gb; rw [List.getD_eq_getElem?_getD, List.getElem?_replicate]; split <;> simp
theorem gb_set (l : List Nat) (k v j : Nat) (h : k < l.length) : gb (l.set k v) j = if k = j then v else gb l j := by
  unfold gb
  rw [List.getD_eq_getElem?_getD, List.getD_eq_getElem?_getD, List.getElem?_set]
  by_cases e : k = j
  · subst e; simp [h]
  · simp [e]
theorem bytes_set {n : Nat} {l : List Nat} (h : Bytes n l) (k v : Nat) (hk : k < n) (hv : v < 256) : Bytes n (l.set k v) := by
  refine ⟨by rw [List.length_set]; exact h.1, fun j => ?_⟩
  rw [gb_set l k v j (by rw [h.1]; exact hk)]
  split
  · exact hv
  · exact h.2 j
theorem bytes_ext {n : Nat} {a b : List Nat} (ha : a.length = n) (hb : b.length = n) (h : ∀ k, k < n → gb a k = gb b k) : a = b := by
  apply List.ext_getElem (by omega)
  intro i h1 h2
  have e := h i (by omega)
  unfold gb at e
  rw [List.getD_eq_getElem?_getD, List.getD_eq_getElem?_getD, List.getElem?_eq_getElem h1, List.getElem?_eq_getElem h2] at e
  exact e
theorem row8_one (l : List Nat) : (row8 l).toArray.all (·.oneCell') = true := by
  unfold row8; simp [Value.oneCell']

/-- An array by value at an index in its bounds. -/
theorem run_index_row {P : Program} (t e : TypeId) (n : Nat) (cs : Array Value) (k : Nat) (v : Value) (h : P.underlying t = some (.array n e)) (hn : k < n) (h1 : (P.info? e).map (·.size) = some 1) (ha : ∀ w, (isAgg e).run P w = .ok false w) (hv : cs[k]? = some v) (w : World) :
    (Instr.index t (.agg cs) (.int .i64 k)).run P w = .ok v w := by
  have hk : (0 : Int) ≤ k ∧ (k : Int) < n := by omega
  cases hq : P.info? e with
  | none => simp [hq] at h1
  | some i =>
    simp [hq] at h1
    have hs : ∀ w, (sizeOf e).run P w = .ok 1 w := fun w => by simp [sizeOf, typeInfo, hq, h1]
    simp [Instr.index, run_underlying h, asIntOf, hk, hn, hs, ha, hv, go_sem]
theorem _root_.Go.World.rangeAt.alloc {w : World} {b o : Nat} {cs : List Value} (h : w.rangeAt b o cs) (ob : Obj) : (w.alloc ob).rangeAt b o cs := World.rangeAt_alloc h ob
theorem rangeAt_new (w : World) (cs : List Value) (t : TypeId) : (w.alloc (.cells cs.toArray t)).rangeAt w.heap.size 0 cs := fun j v hv => by
  rw [World.cell?_alloc_at _ _ _ _ rfl]; simpa using hv
theorem there_new (w : World) (cs : Array Value) (t : TypeId) (n : Nat) (h : cs.size = n) : (w.alloc (.cells cs t)).there w.heap.size 0 n := fun j hj => by
  refine ⟨?_, ?_⟩
  · rw [World.cell?_alloc_at _ _ _ _ rfl, Nat.zero_add, Array.getElem?_eq_getElem (by omega)]; rfl
  · simp [go_sem]
theorem rangeAt_at (w : World) (cs : List Value) (t : TypeId) (n : Nat) (h : n = w.heap.size) : (w.alloc (.cells cs.toArray t)).rangeAt n 0 cs := by
  subst h; exact rangeAt_new w cs t
theorem there_at (w : World) (cs : Array Value) (t : TypeId) (m n : Nat) (h : n = w.heap.size) (hc : cs.size = m) : (w.alloc (.cells cs t)).there n 0 m := by
  subst h; exact there_new w cs t m hc
/-- A result that is a row of cells, out of the variable in which it stands. -/
theorem results_mid {P : Program} {fn : Func} {p : Tmp} {ty : TypeId} (h : fn.results = #[.cell p ty]) (tmps : Array Value) (w : World) (b : Nat) (cs : List Value) (d : TypeDesc)
    (hp : tmps.getD p undef = .pointer (some ⟨b, 0, none⟩)) (hr : w.rangeAt b 0 cs) (hu : P.underlying ty = some d) (hd : d.isRow = true) (hi : (P.info? ty).map (·.size) = some cs.length) :
    (results fn tmps).run P w = .ok (.agg cs.toArray) w := by
  have hp' : tmps[p]?.getD undef = .pointer (some ⟨b, 0, none⟩) := by simpa using hp
  simp [results, h, hp', asAddr, run_loadVar_mid w b 0 ty cs d hr hu hd hi]
theorem below_setCells {B : Nat} {a : World} (b : Nat) (hb : B ≤ b) : ∀ (vs : List Value) (o : Nat) (w : World), Below B a w → Below B a (w.setCells b o vs)
  | [], _, _, h => h
  | v :: r, o, _, h => below_setCells b hb r (o + 1) _ (h.setCell hb v)

/-- Block b holds just these cells, of an array (or a struct) of type t, and may be written. -/
def Blk (w : World) (b : Nat) (t : TypeId) (vs : List Value) : Prop := w.heap[b]? = some (.cells vs.toArray t (0, 0))
theorem Blk.cell {w : World} {b : Nat} {t : TypeId} {vs : List Value} (h : Blk w b t vs) (j : Nat) (v : Value) (hv : vs[j]? = some v) : w.cell? ⟨b, j, none⟩ = some v := by
  rw [cell_of_row w b j _ t _ h]; simpa using hv
theorem Blk.free {w : World} {b : Nat} {t : TypeId} {vs : List Value} (h : Blk w b t vs) (j : Nat) : w.frozen? ⟨b, j, none⟩ = false := frozen_of_row w b j _ t h
theorem Blk.range {w : World} {b : Nat} {t : TypeId} {vs : List Value} (h : Blk w b t vs) : w.rangeAt b 0 vs := fun j v hv => by
  rw [Nat.zero_add]; exact h.cell j v hv
theorem Blk.there {w : World} {b : Nat} {t : TypeId} {vs : List Value} (h : Blk w b t vs) (n : Nat) (hn : vs.length = n) : w.there b 0 n := fun j hj => by
  refine ⟨?_, h.free _⟩
  have e : vs[j]? = some (vs[j]'(by omega)) := List.getElem?_eq_getElem (by omega)
  rw [Nat.zero_add, h.cell j _ e]; rfl
theorem Blk.drew {w : World} {b : Nat} {t : TypeId} {vs : List Value} (h : Blk w b t vs) : Blk w.drew b t vs := h
theorem Blk.lt {w : World} {b : Nat} {t : TypeId} {vs : List Value} (h : Blk w b t vs) : b < w.heap.size := by
  by_cases hlt : b < w.heap.size
  · exact hlt
  · have hn : w.heap[b]? = none := by simp; omega
    unfold Blk at h; rw [hn] at h; cases h
theorem Blk.alloc {w : World} {b : Nat} {t : TypeId} {vs : List Value} (h : Blk w b t vs) (o : Obj) : Blk (w.alloc o) b t vs := by
  unfold Blk; rw [Below.heap_alloc w o b h.lt]; exact h
theorem Blk.new (w : World) (t : TypeId) (vs : List Value) (b : Nat) (hb : b = w.heap.size) : Blk (w.alloc (.cells vs.toArray t)) b t vs := by
  subst hb; exact heap_alloc_new w _
theorem Blk.below {B : Nat} {w w' : World} {b : Nat} {t : TypeId} {vs : List Value} (h : Blk w b t vs) (hb : Below B w w') (hlt : b < B) : Blk w' b t vs := by
  unfold Blk; rw [hb.block b hlt]; exact h
theorem Blk.set {w : World} {b : Nat} {t : TypeId} {vs : List Value} (h : Blk w b t vs) (j : Nat) (v : Value) : Blk (w.setCell ⟨b, j, none⟩ v) b t (vs.set j v) := by
  unfold Blk; rw [heap_setCell_same w b j _ t v h]; simp
theorem Blk.other {w : World} {b : Nat} {t : TypeId} {vs : List Value} (h : Blk w b t vs) (a : Addr) (v : Value) (hne : b ≠ a.block) : Blk (w.setCell a v) b t vs := by
  unfold Blk; rw [heap_setCell_other w a b v hne]; exact h
theorem Blk.others {b : Nat} {t : TypeId} {vs : List Value} (c : Nat) (hne : b ≠ c) : ∀ (us : List Value) (o : Nat) (w : World), Blk w b t vs → Blk (w.setCells c o us) b t vs
  | [], _, _, h => h
  | u :: r, o, _, h => Blk.others c hne r (o + 1) _ (h.other _ u hne)
theorem setCells_list (b : Nat) (t : TypeId) : ∀ (us : List Value) (o : Nat) (w : World) (vs : List Value), Blk w b t vs → o + us.length = vs.length → Blk (w.setCells b o us) b t (vs.take o ++ us)
  | [], o, w, vs, h, hl => by
    simp at hl; subst hl; simpa [World.setCells] using h
  | u :: r, o, w, vs, h, hl => by
    have := setCells_list b t r (o + 1) (w.setCell ⟨b, o, none⟩ u) (vs.set o u) (h.set o u) (by simp at hl ⊢; omega)
    have ho : o < vs.length := by simp at hl; omega
    have e : (vs.set o u).take (o + 1) = vs.take o ++ [u] := by
      rw [List.take_succ_eq_append_getElem (by simpa using ho), List.take_set_of_le (by omega)]; simp
    rw [e, List.append_assoc] at this
    exact this
theorem Blk.whole {w : World} {b : Nat} {t : TypeId} {vs : List Value} (h : Blk w b t vs) (us : List Value) (hl : us.length = vs.length) : Blk (w.setCells b 0 us) b t us := by
  have := setCells_list b t us 0 w vs h (by omega)
  simpa using this
theorem row8_val (l : List Nat) (k : Nat) (h : k < l.length) : (row8 l)[k]? = some (.int .u8 ((gb l k : Nat) : Int)) := by
  have := row8_get l k h
  simpa using this
end Go.Proofs.YtllhljhbnopafaaDoor
