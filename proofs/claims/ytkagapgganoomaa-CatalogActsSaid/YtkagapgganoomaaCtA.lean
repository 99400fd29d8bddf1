/- Texts of one subject in one file: RtPg, RtEqP, RowsW. Own work. -/
import Derived.Test.YtkagapgganoomaaMem
import Derived.Test.YtkagapgganoomaaRtRows
import Derived.Test.YtkagapgganoomaaEqX
import Derived.BigQuiet
import Derived.Test.YtkagapgganoomaaFillX
import Derived.Deep.DeepCutAuto
/- A ref on numbers: its cells, those of refs. Cut off RtM in round 19. Own work. -/
namespace Go.Proofs.Ytkagapgganoomaa
open Go.ChangeShapes Go.WideShapes Go.ChangeAt Go.RowKit
namespace RT
/-- A page's ref. -/
structure Pg where
  at_ : Nat
  sum : List Nat
/-- The cells of a ref, of refs. -/
def pc (p : Pg) : List Value := .int .u32 (p.at_ : Int) :: row8 p.sum
def pcs (ps : List Pg) : List Value := (ps.map pc).flatten
def Pok (p : Pg) : Prop := p.at_ < 4294967296 ∧ Bytes 32 p.sum
theorem pc_len {p : Pg} (h : Pok p) : (pc p).length = 33 := by unfold pc; rw [List.length_cons, row8_len, h.2.1]
theorem pcs_len {ps : List Pg} (h : ∀ p ∈ ps, Pok p) : (pcs ps).length = ps.length * 33 := by
  unfold pcs
  induction ps with
  | nil => rfl
  | cons a r ih =>
    rw [List.map_cons, List.flatten_cons, List.length_append, pc_len (h a (by simp)), ih (fun p hp => h p (by simp [hp])), List.length_cons]
    omega
theorem pcs_app (ps qs : List Pg) : pcs (ps ++ qs) = pcs ps ++ pcs qs := by unfold pcs; rw [List.map_append, List.flatten_append]
theorem pcs_one (p : Pg) : pcs [p] = pc p := by unfold pcs; simp
/-- The i-th cell of the j-th ref. -/
theorem pcs_get {ps : List Pg} (h : ∀ p ∈ ps, Pok p) {j : Nat} (hj : j < ps.length) {i : Nat} (hi : i < 33) : (pcs ps)[j * 33 + i]? = (pc ps[j])[i]? := by
  induction ps generalizing j with
  | nil => simp at hj
  | cons a r ih =>
    have ha := pc_len (h a (by simp))
    have e : pcs (a :: r) = pc a ++ pcs r := by unfold pcs; rw [List.map_cons, List.flatten_cons]
    rw [e]
    cases j with
    | zero =>
      rw [Nat.zero_mul, Nat.zero_add, List.getElem?_append_left (by omega)]
      rfl
    | succ j =>
      rw [List.getElem?_append_right (by omega), ha, show (j + 1) * 33 + i - 33 = j * 33 + i by omega]
      exact ih (fun p hp => h p (by simp [hp])) (by simpa using hj)
theorem pcs_one' (ps : List Pg) : ∀ u ∈ pcs ps, u.oneCell' = true := fun u hu => by
  unfold pcs at hu
  obtain ⟨l, hl, hul⟩ := List.mem_flatten.1 hu
  obtain ⟨p, _, rfl⟩ := List.mem_map.1 hl
  unfold pc at hul
  rcases List.mem_cons.1 hul with rfl | q
  · rfl
  · exact row8_one' _ u q
end RT
end Go.Proofs.Ytkagapgganoomaa
/- '==' on refs; ranges of a ref's cells. Cut off RtEq in round 19. Own work. -/
namespace Go.Proofs.Ytkagapgganoomaa
open Go.ChangeShapes Go.WideShapes Go.ChangeAt Go.RowKit
open RT
theorem fieldsRf : ∃ f0 f1 : Field, (Try.prog.fieldsOf 26).toList = [f0, f1] ∧ (f0.name ≠ "_" ∧ f0.type = 22 ∧ f0.offset = 0) ∧ (f1.name ≠ "_" ∧ f1.type = 24 ∧ f1.offset = 1) := by
  simp only [Program.fieldsOf, Try.underlying26]
  exact ⟨_, _, rfl, ⟨by simp, rfl, rfl⟩, ⟨by simp, rfl, rfl⟩⟩
theorem size1Rf (w : World) : (sizeOf 5).run Try.prog w = .ok 1 w := by kernel_rfl
theorem sizeSRf (w : World) : (sizeOf 24).run Try.prog w = .ok 32 w := by kernel_rfl
/-- Are two refs one? -/
def pgEq (p q : Pg) : Bool := decide (p.at_ = q.at_) && decide (p.sum = q.sum)
theorem pgEq_iff {p q : Pg} : pgEq p q = true ↔ p = q := by
  unfold pgEq
  rw [Bool.and_eq_true, decide_eq_true_eq, decide_eq_true_eq]
  constructor
  · rintro ⟨h1, h2⟩; cases p; cases q; simp only at h1 h2; rw [h1, h2]
  · rintro rfl; exact ⟨rfl, rfl⟩
theorem pc_sum (p : Pg) : ∀ (j : Nat) v, (row8 p.sum)[j]? = some v → (pc p)[1 + j]? = some v := fun j v h => by
  unfold pc
  rw [Nat.add_comm, List.getElem?_cons_succ]; exact h
set_option maxRecDepth 100000 in
theorem equal_ref (w : World) (d : Nat) {p q : Pg} (hp : Pok p) (hq : Pok q) :
    (Op.equalIn (d + 3) 26 (.agg (pc p).toArray) (.agg (pc q).toArray)).run Try.prog w = .ok (pgEq p q) w := by
  have p0 : ∀ s : Pg, (part 22 (pc s).toArray 0).run Try.prog w = .ok (.int .u32 (s.at_ : Int)) w := fun s => part_cell w _ .u32 (.inr Try.underlying22) _ 0 _ rfl
  have p1 : ∀ {s : Pg}, Pok s → (part 24 (pc s).toArray 1).run Try.prog w = .ok (.agg (row8 s.sum).toArray) w := fun h => part_row w _ 32 1 _ Try.underlying24 sizeSRf _ _ h.2.1 (pc_sum _)
  have q1 := equal_bytes w d 24 5 32 Try.underlying24 Try.underlying5 size1Rf _ _ hp.2 hq.2
  have q0 := run_equalIn_int (P := Try.prog) w (d + 1) 22 .u32 .u32 (p.at_ : Int) (q.at_ : Int) Try.underlying22
  rw [run_equalIn_agg w (d + 2) 26 _ _ (by kernel_rfl) (by kernel_rfl)]
  obtain ⟨f0, f1, hL, h0, h1⟩ := fieldsRf
  rw [hL, eqFields_step w (d + 2) _ _ f0 _ _ _ h0 _ _ _ (p0 p) (p0 q) q0, eqFields_step w (d + 2) _ _ f1 _ _ _ h1 _ _ _ (p1 hp) (p1 hq) q1]
  simp only [Op.eqFields, Sem.run_pure]
  have ht : (p.at_ : Int) = (q.at_ : Int) ↔ p.at_ = q.at_ := by omega
  clear p0 p1 q0 q1 hp hq
  unfold pgEq
  by_cases e0 : p.at_ = q.at_
  · by_cases e1 : p.sum = q.sum
    · simp [e0, e1]
    · simp [e0, e1]
  · simp [ht, e0]
theorem run_eql_ref {p q : Pg} (hp : Pok p) (hq : Pok q) (w : World) : (binOp .eql 26 (.agg (pc p).toArray) (.agg (pc q).toArray)).run Try.prog w = .ok (.bool (pgEq p q)) w := by
  rw [run_eql_struct, equal_ref w 9997 hp hq]; rfl
theorem run_neq_ref {p q : Pg} (hp : Pok p) (hq : Pok q) (w : World) : (binOp .neq 26 (.agg (pc p).toArray) (.agg (pc q).toArray)).run Try.prog w = .ok (.bool (!pgEq p q)) w := by
  have h := run_eql_ref hp hq w
  simp only [binOp, Sem.run_bind, Sem.run_pure] at h ⊢
  cases k : (Op.equal 26 (.agg (pc p).toArray) (.agg (pc q).toArray)).run Try.prog w with
  | ok b w' =>
    rw [k] at h
    simp only [Result.andThen_ok, Result.ok.injEq, Value.bool.injEq] at h ⊢
    exact ⟨by rw [h.1], h.2⟩
  | _ => rw [k] at h; simp [Result.andThen] at h
theorem eqTypeRf : Try.prog.eqGuardType Try.prog.depth 26 = false := by kernel_rfl
theorem infoRf : (Try.prog.info? 26).map (·.size) = some 33 := by kernel_rfl
theorem infoSm : (Try.prog.info? 24).map (·.size) = some 32 := by kernel_rfl
theorem eqTypeSm : Try.prog.eqGuardType Try.prog.depth 24 = false := by kernel_rfl
/-- The cells of a page. -/
theorem ref_range {w : World} {ao : Option Addr} {cap : Nat} {ps : List Pg} (h : RdT 33 w (.slice ao ps.length cap) ps.length (pcs ps)) (hp : ∀ p ∈ ps, Pok p) {k : Nat} (hk : k < ps.length) :
    ∃ b off, ao = some ⟨b, off, none⟩ ∧ w.rangeAt b (off + k * 33) (pc ps[k]) := by
  obtain ⟨b, off, e, hc⟩ := h.at_ (by decide) k hk
  refine ⟨b, off, e, fun i u hu => ?_⟩
  have hi : i < 33 := by
    rw [← pc_len (hp _ (List.getElem_mem hk))]
    rcases Nat.lt_or_ge i (pc ps[k]).length with q | q
    · exact q
    · rw [List.getElem?_eq_none q] at hu; cases hu
  have h2 := hc i u hi (by rw [pcs_get hp hk hi]; exact hu)
  rw [Nat.add_assoc]; exact h2
/-- An operation of a quiet walk whose value is told. -/
theorem wpQuiet_told {P : Program} {ops : Array Oper} {rest : List Oper} {o : Oper} {a : Act} {Q : Act → Prop} (w : World) (hw : Region.wanted o (yielded ops a.tmps) = true) (v : Value) (h : ∀ n, (execOp a.eval o).run P (w.drewN n) = .ok (.value v) (w.drewN n))
    (hr : wpQuiet P ops (fun w' => ∃ n, w' = w.drewN n) Q rest (a.put o.dst v)) : wpQuiet P ops (fun w' => ∃ n, w' = w.drewN n) Q (o :: rest) a :=
  wpQuiet_step fun K hK => by rw [if_pos hw]; exact ⟨v, fun w' ⟨n, e⟩ => by subst e; unfold Oper.quietAt; rw [h n]; exact ⟨rfl, rfl⟩, hK _ hr⟩
theorem ex_load_part {P : Program} {o : Oper} {a : Act} {w : World} (ty : TypeId) (x : Operand) (ho : o.op = .load ty x) (b k : Nat) (hx : a.eval x = .pointer (some ⟨b, k, none⟩)) (cs : List Value) (d : TypeDesc) (hr : w.rangeAt b k cs) (hu : P.underlying ty = some d) (hd : d.isRow = true) (hi : (P.info? ty).map (·.size) = some cs.length) : (execOp a.eval o).run P w = .ok (.value (.agg cs.toArray)) w := by
  unfold execOp
  simp only [ho, hx, Instr.loadAt, Instr.sureAddr, Sem.run_bind, Sem.run_pure, Result.andThen_ok, run_loadVar_mid w b k _ _ _ hr hu hd hi]
theorem range_dN {w : World} {b k : Nat} {cs : List Value} (h : w.rangeAt b k cs) (n : Nat) : (w.drewN n).rangeAt b k cs := fun i u hu => h i u hu
theorem blk_dN {w : World} {b : Nat} {t : TypeId} {l : List Value} (h : Blk w b t l) (n : Nat) : Blk (w.drewN n) b t l := h.below (below_dN (Below.refl _ _) n) h.lt
/-- A row loaded behind a guard, two things compared behind one: what the operation is stands first, so that a wrong one is passed over quickly. -/
theorem wpList_loadW {P : Program} {ops : Array Oper} {rest : List Oper} {op : Oper} {a : Act} {w : World} {Q : Exit → Act → World → Prop} (ty : TypeId) (x : Operand) (ho : op.op = .load ty x)
    (b o : Nat) (hx : a.eval x = .pointer (some ⟨b, o, none⟩)) (cs : List Value) (d : TypeDesc) (hc : w.rangeAt b o cs)
    (hu : P.underlying ty = some d) (hd : d.isRow = true) (hi : (P.info? ty).map (·.size) = some cs.length) (hw : Region.wanted op (yielded ops a.tmps) = true)
    (h : wpList P ops Q rest (a.put op.dst (.agg cs.toArray)) w) : wpList P ops Q (op :: rest) a w := wpList_load_wanted hw ty x ho b o hx cs d hc hu hd hi h
theorem wpList_binW {P : Program} {ops : Array Oper} {rest : List Oper} {op : Oper} {a : Act} {w : World} {Q : Exit → Act → World → Prop} (x y : Operand) (b : BinOp) (t z : TypeId) (ho : op.op = .binOp b t x y z) (u u' v : Value) (hx : a.eval x = u) (hy : a.eval y = u')
    (hg : (eqGuard b t x y u u').run P w = .ok () w) (hb : (binOp b t u u').run P w = .ok v w) (hw : Region.wanted op (yielded ops a.tmps) = true) (h : wpList P ops Q rest (a.put op.dst v) w) : wpList P ops Q (op :: rest) a w := wpList_wanted hw v (ex_binOp ho hx hy hg hb) h
end Go.Proofs.Ytkagapgganoomaa
/- Slices of structs made and appended to, in order. Cut off RtCopy in round 19. Own work. -/
namespace Go.Proofs.Ytkagapgganoomaa
open Go.ChangeShapes Go.WideShapes Go.ChangeAt Go.RowKit
section
variable {P : Program} {ops : Array Oper} {rest : List Oper} {o : Oper} {a : Act} {w : World} {Q : Exit → Act → World → Prop}
theorem ownT_empty (w : World) (t : TypeId) (k : Nat) {B b : Nat} (hb : b = w.heap.size) (hB : B ≤ w.heap.size) : (w.alloc (.cells #[] t)).ownsRow B t k (.slice (some ⟨b, 0, none⟩) 0 0) 0 [] := by
  subst hb
  exact ⟨by simp, .inr ⟨_, 0, #[], rfl, hB, heap_alloc_new w _, Nat.le_refl _, by unfold maxLen; omega, by simp, by simp⟩⟩
theorem wpList_appT (hgd : o.guard = none) (s x : Operand) (st et : TypeId) (k bytes : Nat) (Z : List Value) (ho : o.op = .call { callee := .builtin .append, args := #[s, x], argTypes := #[st, st] })
    (hst : P.underlying st = some (.slice et)) (hi : (P.info? et).map (fun i => (i.zero, i.size, i.bytes)) = some (some (.agg Z.toArray), k, bytes)) (hZ : Z.length = k) (hk0 : 0 < k) (hby : bytes ≤ 4096)
    (B : Nat) (v y : Value) (n m : Nat) (cs ds : List Value) (hs : a.eval s = v) (hx : a.eval x = y) (hv : w.ownsRow B et k v n cs) (hy : RdT k w y m ds) (h1 : ∀ u ∈ ds, u.oneCell' = true) (hl : n + m ≤ 34359738368) (hB : B ≤ w.heap.size)
    (h : ∀ v' w', w'.ownsRow B et k v' (n + m) (cs ++ ds) → w.grownBy w' v.ownBlock → (v'.ownBlock = v.ownBlock ∨ v'.ownBlock = some w.heap.size) → wpList P ops Q rest (a.put o.dst v') w') : wpList P ops Q (o :: rest) a w := by
  obtain ⟨v', w', hrun, h2, h3, h4⟩ := run_appT w st et o.type k bytes Z hst hi hZ hk0 hby B v y n m cs ds hv hy h1 hl hB
  refine wpList_plain hgd fun _ hK => ?_
  unfold Oper.wp
  simp only [execOp, ho, resolve, invoke, builtin, Sem.run_bind, Sem.run_pure, Result.andThen_ok, List.map_toArray, List.map_cons, List.map_nil, hs, hx, hrun]
  exact hK _ _ (h v' w' h2 h3 h4)
theorem wpList_appTw (hgd : o.guard = none) (s x : Operand) (st et : TypeId) (k bytes : Nat) (Z : List Value) (ho : o.op = .call { callee := .builtin .append, args := #[s, x], argTypes := #[st, st] })
    (hst : P.underlying st = some (.slice et)) (hi : (P.info? et).map (fun i => (i.zero, i.size, i.bytes)) = some (some (.agg Z.toArray), k, bytes)) (hZ : Z.length = k) (hk0 : 0 < k)
    (B : Nat) (v y : Value) (n m : Nat) (cs ds : List Value) (hs : a.eval s = v) (hx : a.eval x = y) (hv : w.ownsRow B et k v n cs) (hy : RdT k w y m ds) (h1 : ∀ u ∈ ds, u.oneCell' = true) (hl : n + m ≤ 140737488355328) (hl2 : (n + m) * bytes ≤ 140737488355328) (hB : B ≤ w.heap.size)
    (h : ∀ v' w', w'.ownsRow B et k v' (n + m) (cs ++ ds) → w.grownBy w' v.ownBlock → (v'.ownBlock = v.ownBlock ∨ v'.ownBlock = some w.heap.size) → wpList P ops Q rest (a.put o.dst v') w') : wpList P ops Q (o :: rest) a w := by
  obtain ⟨v', w', hrun, h2, h3, h4⟩ := run_appTw w st et o.type k bytes Z hst hi hZ hk0 B v y n m cs ds hv hy h1 hl hl2 hB
  refine wpList_plain hgd fun _ hK => ?_
  unfold Oper.wp
  simp only [execOp, ho, resolve, invoke, builtin, Sem.run_bind, Sem.run_pure, Result.andThen_ok, List.map_toArray, List.map_cons, List.map_nil, hs, hx, hrun]
  exact hK _ _ (h v' w' h2 h3 h4)
theorem wpList_oneT (hgd : o.guard = none) (x : Operand) (st et : TypeId) (k bytes : Nat) (Z L : List Value) (ho : o.op = .buildSlice st 1 #[(0, x)]) (hst : P.underlying st = some (.slice et)) (hi : (P.info? et).map (fun i => (i.zero, i.size, i.bytes)) = some (some (.agg Z.toArray), k, bytes)) (hk0 : 0 < k) (hk1 : k ≤ 4096) (hL : L.length = k) (hx : a.eval x = .agg L.toArray)
    (h : wpList P ops Q rest (a.put o.dst (.slice (some ⟨w.heap.size, 0, none⟩) 1 1)) (w.alloc (.cells L.toArray et))) : wpList P ops Q (o :: rest) a w := by
  refine wpList_plain hgd fun _ hK => ?_
  unfold Oper.wp execOp
  rw [ho]
  simp only [List.map_toArray, List.map_cons, List.map_nil, hx, Sem.run_bind, run_oneT w st et k bytes Z L hst hi hk0 hk1 hL, Result.andThen_ok, Sem.run_pure, Oper.upon_value]
  exact hK _ _ h
theorem ownT_lower {B B' : Nat} {t : TypeId} {k n : Nat} {v : Value} {cs : List Value} (h : w.ownsRow B t k v n cs) (hb : B' ≤ B) : w.ownsRow B' t k v n cs := by
  refine ⟨h.1, ?_⟩
  rcases h.2 with q | ⟨g, c, cur, e, hg, r⟩
  · exact .inl q
  · exact .inr ⟨g, c, cur, e, Nat.le_trans hb hg, r⟩
/-- One thing reads so. -/
theorem rdT_one (w : World) (et : TypeId) (L : List Value) (k : Nat) (hL : L.length = k) : RdT k (w.alloc (.cells L.toArray et)) (.slice (some ⟨w.heap.size, 0, none⟩) 1 1) 1 L := by
  refine ⟨by rw [hL]; omega, .inr ⟨_, 1, rfl, Nat.le_refl _, fun j u hu => ?_⟩⟩
  rw [Addr.add_mid, Nat.zero_add]
  exact (Blk.new w et L _ rfl).cell j u hu
end
def zref : List Value := .int .u32 0 :: row8 (List.replicate 32 0)
theorem infoRef : (Try.prog.info? 26).map (fun i => (i.zero, i.size, i.bytes)) = some (some (.agg zref.toArray), 33, 36) := by kernel_rfl
end Go.Proofs.Ytkagapgganoomaa
