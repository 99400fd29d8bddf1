/- Cells stored into a block, among the operations of a region that draws (FactsZ). Own work. -/
import Derived.Test.YtoacdeddkfcllaaDoorZed
import Derived.Test.YtoacdeddkfcllaaDoorMem
namespace Go.Proofs.YtoacdeddkfcllaaDoor
open Go.ChangeShapes Go.WideShapes Go.ChangeAt Go.RowKit
section
variable {P : Program} {ops : List Oper} {Q : Exit → Act → World → Prop} {o : Oper} {a : Act} {w : World} {I : Told → World → Prop} {tbl : List Fz} {r : Told} {i : Nat} {S : List Nat}
theorem doesZ_put (hi : i ∈ S) (hw : Region.wanted o (yielded ops.toArray a.tmps) = true) (ty : TypeId) (p x : Operand) (ho : o.op = .store ty p x) (b k : Nat) (cs : List Value) (hp : a.eval p = .pointer (some ⟨b, k, none⟩)) (hx : a.eval x = .agg cs.toArray) (t : TypeId) (cur : List Value) (hb : Blk w b t cur) (hk : k + cs.length ≤ cur.length)
    (hz : (P.info? ty).map (·.size) = some cs.length) (h1 : cs.toArray.all (·.oneCell') = true) (hT : tbl.getD i .any = .any) (hI : ∀ w', Blk w' b t (splice cur k cs) → w.grownBy w' (some b) → I (r.set i undef) w') :
    DoesK P ops Q o a w (fun v w' => I (if i ∈ S then r.set i v else r) w' ∧ (tbl.getD i .any).holds (if i ∈ S then r.set i v else r) v) := by
  refine doesZ_turn hi hw fun K hK => ?_
  exact wp_store_mid ty p x ho b k cs.toArray hp hx (there_part hb k _ (by simpa using hk)) (by simpa using hz) h1 (hK _ _ (hI _ (setCells_mid b t cs k w cur hb hk) (only_setCells b cs k w (World.grownBy.refl w _))) (by rw [hT]; trivial))
/-- A row of cells is read out of a block. -/
theorem doesZ_ld (hi : i ∉ S) (hw : Region.wanted o (yielded ops.toArray a.tmps) = true) (ty : TypeId) (x : Operand) (ho : o.op = .load ty x) (c f : Nat) (hx : a.eval x = .pointer (some ⟨c, f, none⟩)) (cs : List Value) (hr : w.rangeAt c f cs) (d : TypeDesc) (hu : P.underlying ty = some d) (hd : d.isRow = true) (hn : (P.info? ty).map (·.size) = some cs.length) (hI : I r w) (hf : (tbl.getD i .any).holds r (.agg cs.toArray)) :
    DoesK P ops Q o a w (fun v w' => I (if i ∈ S then r.set i v else r) w' ∧ (tbl.getD i .any).holds (if i ∈ S then r.set i v else r) v) := by
  simp only [if_neg hi]
  exact ⟨hw, fun K hK => wp_load_mid ty x ho c f hx cs d hr hu hd hn (hK _ _ ⟨hI, hf⟩)⟩
end
section
variable {ops : List Oper} {Q : Exit → Act → World → Prop} {o : Oper} {a : Act} {w : World} {I : Told → World → Prop} {tbl : List Fz} {r : Told} {i : Nat} {S : List Nat}
/-- append of whatever bytes onto a slice of the call's own. -/
theorem doesZ_app8 (hi : i ∈ S) (hw : Region.wanted o (yielded ops.toArray a.tmps) = true) (s x : Operand) (ho : o.op = .call { callee := .builtin .append, args := #[s, x], argTypes := #[29, 29] }) (base : Nat) (v y : Value) (l m : List Nat) (hs : a.eval s = v) (hx : a.eval x = y) (hv : Own w base v l) (hy : Rd w y m)
    (hn : l.length + m.length ≤ 140737488355328) (hb : base ≤ w.heap.size) (h : ∀ v' w', Own w' base v' (l ++ m) → w.grownBy w' v.ownBlock → (v'.ownBlock = v.ownBlock ∨ v'.ownBlock = some w.heap.size) → I (r.set i v') w' ∧ (tbl.getD i .any).holds (r.set i v') v') :
    DoesK Tryd.prog ops Q o a w (fun v w' => I (if i ∈ S then r.set i v else r) w' ∧ (tbl.getD i .any).holds (if i ∈ S then r.set i v else r) v) :=
  doesZ_turn hi hw fun _ hK => wp_app s x ho base v y l m hs hx hv hy hn hb fun v' w' h1 h2 h3 => hK _ _ (h v' w' h1 h2 h3).1 (h v' w' h1 h2 h3).2
/-- A slice of one byte. -/
theorem doesZ_byte (hi : i ∈ S) (hw : Region.wanted o (yielded ops.toArray a.tmps) = true) (x : Operand) (ho : o.op = .buildSlice 29 1 #[(0, x)]) (n : Nat) (hx : a.eval x = .int .u8 (n : Int))
    (h : I (r.set i (.slice (some ⟨w.heap.size, 0, none⟩) 1 1)) (w.alloc (.cells (row8 [n]).toArray 5)) ∧ (tbl.getD i .any).holds (r.set i (.slice (some ⟨w.heap.size, 0, none⟩) 1 1)) (.slice (some ⟨w.heap.size, 0, none⟩) 1 1)) :
    DoesK Tryd.prog ops Q o a w (fun v w' => I (if i ∈ S then r.set i v else r) w' ∧ (tbl.getD i .any).holds (if i ∈ S then r.set i v else r) v) := by
  refine doesZ_turn hi hw fun K hK => ?_
  have hk := hK _ _ h.1 h.2
  unfold Oper.wp execOp
  rw [ho]
  simp only [List.map_toArray, List.map_cons, List.map_nil, hx]
  go_simp
  exact hk
end
/-- A slice that was appended to lies where it lay, or in a newer block. -/
def From (v ov : Value) (n : Nat) : Prop := ∀ g, v.ownBlock = some g → ov.ownBlock = some g ∨ n ≤ g
theorem From.one {v ov : Value} {n : Nat} (k : v.ownBlock = ov.ownBlock ∨ v.ownBlock = some n) : From v ov n := fun g e => by
  rcases k with q | q
  · exact .inl (q ▸ e)
  · right; rw [q] at e; exact Nat.le_of_eq (Option.some.inj e)
theorem From.next {v u ov : Value} {n m : Nat} (h : From u ov n) (k : v.ownBlock = u.ownBlock ∨ v.ownBlock = some m) (hm : n ≤ m) : From v ov n := fun g e => by
  rcases k with q | q
  · exact h g (q ▸ e)
  · right; rw [q] at e; have := Option.some.inj e; omega
theorem grown_from {w1 w w' : World} {u ov : Value} (h : w1.grownBy w ov.ownBlock) (k : w.grownBy w' u.ownBlock) (f : From u ov w1.heap.size) : w1.grownBy w' ov.ownBlock :=
  ⟨k.os.trans h.os, k.tape.trans h.tape, k.output.trans h.output, Nat.le_trans h.size k.size, fun g hg hn => by
    rw [k.block g (Nat.lt_of_lt_of_le hg h.size) (fun e => by
      rcases f g e.symm with q | q
      · exact hn q.symm
      · omega)]
    exact h.block g hg hn⟩
/-- A slice grown by one piece after another. -/
structure Grew (w1 : World) (B : Nat) (ov : Value) (w : World) (v : Value) (l : List Nat) : Prop where
  own : Own w B v l
  grow : w1.grownBy w ov.ownBlock
  from_ : From v ov w1.heap.size
theorem Grew.next {w1 w w' : World} {B : Nat} {ov u v : Value} {l m : List Nat} (h : Grew w1 B ov w u l) (o : Own w' B v m) (g : w.grownBy w' u.ownBlock) (k : v.ownBlock = u.ownBlock ∨ v.ownBlock = some w.heap.size) : Grew w1 B ov w' v m :=
  ⟨o, grown_from h.grow g h.from_, h.from_.next k h.grow.size⟩
theorem Grew.refl {w1 : World} {B : Nat} {ov : Value} {l : List Nat} (o : Own w1 B ov l) : Grew w1 B ov w1 ov l := ⟨o, World.grownBy.refl w1 _, fun _ e => .inl e⟩
end Go.Proofs.YtoacdeddkfcllaaDoor
