/- '==' on refs of a root; ranges of a root's cells. Own work. -/
import Derived.Test.YtoacdeddkfcllaaDoorRtM
import Derived.Test.YtoacdeddkfcllaaDoorEqX
import Derived.Test.YtoacdeddkfcllaaDoorShaD
import Derived.BigQuiet
namespace Go.Proofs.YtoacdeddkfcllaaDoor
open Go.ChangeShapes Go.WideShapes Go.ChangeAt Go.RowKit
open RT
theorem fieldsRf : ∃ f0 f1 : Field, (Tryd.prog.fieldsOf 26).toList = [f0, f1] ∧ (f0.name ≠ "_" ∧ f0.type = 22 ∧ f0.offset = 0) ∧ (f1.name ≠ "_" ∧ f1.type = 24 ∧ f1.offset = 1) := by
  simp only [Program.fieldsOf, Tryd.underlying26]
  exact ⟨_, _, rfl, ⟨by simp, rfl, rfl⟩, ⟨by simp, rfl, rfl⟩⟩
theorem size1Rf (w : World) : (sizeOf 5).run Tryd.prog w = .ok 1 w := by kernel_rfl
theorem sizeSRf (w : World) : (sizeOf 24).run Tryd.prog w = .ok 32 w := by kernel_rfl
/-- Are two refs one? -/
def pgEq (p q : Pg) : Bool := decide (p.at_ = q.at_) && decide (p.sum = q.sum)
theorem pgEq_iff {p q : Pg} : pgEq p q = true ↔ p = q := by
  unfold pgEq
  rw [Bool.and_eq_true, decide_eq_true_eq, decide_eq_true_eq]
  constructor
  · rintro ⟨h1, h2⟩; cases p; cases q; simp only at h1 h2; rw [h1, h2]
  · rintro rfl; exact ⟨rfl, rfl⟩
theorem pc_sum (p : Pg) : ∀ (j : Nat) v, (row8 p.sum)[j]? = some v → (pc p)[1 + j]? = some v := fun j v h => by
  unfold pc
  rw [Nat.add_comm, List.getElem?_cons_succ]; exact h
set_option maxRecDepth 100000 in
theorem equal_ref (w : World) (d : Nat) {p q : Pg} (hp : Pok p) (hq : Pok q) :
    (Op.equalIn (d + 3) 26 (.agg (pc p).toArray) (.agg (pc q).toArray)).run Tryd.prog w = .ok (pgEq p q) w := by
  have p0 : ∀ s : Pg, (part 22 (pc s).toArray 0).run Tryd.prog w = .ok (.int .u32 (s.at_ : Int)) w := fun s => part_cell w _ .u32 (.inr Tryd.underlying22) _ 0 _ rfl
  have p1 : ∀ {s : Pg}, Pok s → (part 24 (pc s).toArray 1).run Tryd.prog w = .ok (.agg (row8 s.sum).toArray) w := fun h => part_row w _ 32 1 _ Tryd.underlying24 sizeSRf _ _ h.2.1 (pc_sum _)
  have q1 := equal_bytes w d 24 5 32 Tryd.underlying24 Tryd.underlying5 size1Rf _ _ hp.2 hq.2
  have q0 := run_equalIn_int (P := Tryd.prog) w (d + 1) 22 .u32 .u32 (p.at_ : Int) (q.at_ : Int) Tryd.underlying22
  rw [run_equalIn_agg w (d + 2) 26 _ _ (by kernel_rfl) (by kernel_rfl)]
  obtain ⟨f0, f1, hL, h0, h1⟩ := fieldsRf
  rw [hL, eqFields_step w (d + 2) _ _ f0 _ _ _ h0 _ _ _ (p0 p) (p0 q) q0, eqFields_step w (d + 2) _ _ f1 _ _ _ h1 _ _ _ (p1 hp) (p1 hq) q1]
  simp only [Op.eqFields, Sem.run_pure]
  have ht : (p.at_ : Int) = (q.at_ : Int) ↔ p.at_ = q.at_ := by omega
  clear p0 p1 q0 q1 hp hq
  unfold pgEq
  by_cases e0 : p.at_ = q.at_
  · by_cases e1 : p.sum = q.sum
    · simp [e0, e1]
    · simp [e0, e1]
  · simp [ht, e0]
theorem run_eql_ref {p q : Pg} (hp : Pok p) (hq : Pok q) (w : World) : (binOp .eql 26 (.agg (pc p).toArray) (.agg (pc q).toArray)).run Tryd.prog w = .ok (.bool (pgEq p q)) w := by
  rw [run_eql_struct, equal_ref w 9997 hp hq]; rfl
theorem run_neq_ref {p q : Pg} (hp : Pok p) (hq : Pok q) (w : World) : (binOp .neq 26 (.agg (pc p).toArray) (.agg (pc q).toArray)).run Tryd.prog w = .ok (.bool (!pgEq p q)) w := by
  have h := run_eql_ref hp hq w
  simp only [binOp, Sem.run_bind, Sem.run_pure] at h ⊢
  cases k : (Op.equal 26 (.agg (pc p).toArray) (.agg (pc q).toArray)).run Tryd.prog w with
  | ok b w' =>
    rw [k] at h
    simp only [Result.andThen_ok, Result.ok.injEq, Value.bool.injEq] at h ⊢
    exact ⟨by rw [h.1], h.2⟩
  | _ => rw [k] at h; simp [Result.andThen] at h
theorem eqTypeRf : Tryd.prog.eqGuardType Tryd.prog.depth 26 = false := by kernel_rfl
theorem infoRf : (Tryd.prog.info? 26).map (·.size) = some 33 := by kernel_rfl
theorem infoSm : (Tryd.prog.info? 24).map (·.size) = some 32 := by kernel_rfl
theorem eqTypeSm : Tryd.prog.eqGuardType Tryd.prog.depth 24 = false := by kernel_rfl
/-- The cells of Super and of Keys, where a root lies. -/
theorem rt_range_sup {w : World} {b : Nat} {t : TypeId} {r : Rt} {v : Value} (h : Blk w b t (rtc r v)) (hr : Ok r) : w.rangeAt b 1 (row8 r.sup) := range_part h 1 _ fun j u hu => by
  rw [← rtc_sup hr v] at hu
  rw [List.getElem?_take] at hu
  split at hu
  · rw [List.getElem?_drop] at hu; exact hu
  · cases hu
theorem rt_range_keys {w : World} {b : Nat} {t : TypeId} {r : Rt} {v : Value} (h : Blk w b t (rtc r v)) (hr : Ok r) : w.rangeAt b 34 (row8 r.keys) := range_part h 34 _ fun j u hu => by
  rw [← rtc_keys hr v] at hu
  rw [List.getElem?_take] at hu
  split at hu
  · rw [List.getElem?_drop] at hu; exact hu
  · cases hu
/-- The cells of a page. -/
theorem ref_range {w : World} {ao : Option Addr} {cap : Nat} {ps : List Pg} (h : RdT 33 w (.slice ao ps.length cap) ps.length (pcs ps)) (hp : ∀ p ∈ ps, Pok p) {k : Nat} (hk : k < ps.length) :
    ∃ b off, ao = some ⟨b, off, none⟩ ∧ w.rangeAt b (off + k * 33) (pc ps[k]) := by
  obtain ⟨b, off, e, hc⟩ := h.at_ (by decide) k hk
  refine ⟨b, off, e, fun i u hu => ?_⟩
  have hi : i < 33 := by
    rw [← pc_len (hp _ (List.getElem_mem hk))]
    rcases Nat.lt_or_ge i (pc ps[k]).length with q | q
    · exact q
    · rw [List.getElem?_eq_none q] at hu; cases hu
  have h2 := hc i u hi (by rw [pcs_get hp hk hi]; exact hu)
  rw [Nat.add_assoc]; exact h2
/-- An operation of a quiet walk whose value is told. -/
theorem wpQuiet_told {P : Program} {ops : Array Oper} {rest : List Oper} {o : Oper} {a : Act} {Q : Act → Prop} (w : World) (hw : Region.wanted o (yielded ops a.tmps) = true) (v : Value) (h : ∀ n, (execOp a.eval o).run P (w.drewN n) = .ok (.value v) (w.drewN n))
    (hr : wpQuiet P ops (fun w' => ∃ n, w' = w.drewN n) Q rest (a.put o.dst v)) : wpQuiet P ops (fun w' => ∃ n, w' = w.drewN n) Q (o :: rest) a :=
  wpQuiet_step fun K hK => by rw [if_pos hw]; exact ⟨v, fun w' ⟨n, e⟩ => by subst e; unfold Oper.quietAt; rw [h n]; exact ⟨rfl, rfl⟩, hK _ hr⟩
theorem ex_load_part {P : Program} {o : Oper} {a : Act} {w : World} (ty : TypeId) (x : Operand) (ho : o.op = .load ty x) (b k : Nat) (hx : a.eval x = .pointer (some ⟨b, k, none⟩)) (cs : List Value) (d : TypeDesc) (hr : w.rangeAt b k cs) (hu : P.underlying ty = some d) (hd : d.isRow = true) (hi : (P.info? ty).map (·.size) = some cs.length) : (execOp a.eval o).run P w = .ok (.value (.agg cs.toArray)) w := by
  unfold execOp
  simp only [ho, hx, Instr.loadAt, Instr.sureAddr, Sem.run_bind, Sem.run_pure, Result.andThen_ok, run_loadVar_mid w b k _ _ _ hr hu hd hi]
theorem range_dN {w : World} {b k : Nat} {cs : List Value} (h : w.rangeAt b k cs) (n : Nat) : (w.drewN n).rangeAt b k cs := fun i u hu => h i u hu
theorem blk_dN {w : World} {b : Nat} {t : TypeId} {l : List Value} (h : Blk w b t l) (n : Nat) : Blk (w.drewN n) b t l := h.below (below_dN (Below.refl _ _) n) h.lt
/-- A row loaded behind a guard, two things compared behind one: what the operation is stands first, so that a wrong one is passed over quickly. -/
theorem wpList_loadW {P : Program} {ops : Array Oper} {rest : List Oper} {op : Oper} {a : Act} {w : World} {Q : Exit → Act → World → Prop} (ty : TypeId) (x : Operand) (ho : op.op = .load ty x)
    (b o : Nat) (hx : a.eval x = .pointer (some ⟨b, o, none⟩)) (cs : List Value) (d : TypeDesc) (hc : w.rangeAt b o cs)
    (hu : P.underlying ty = some d) (hd : d.isRow = true) (hi : (P.info? ty).map (·.size) = some cs.length) (hw : Region.wanted op (yielded ops a.tmps) = true)
    (h : wpList P ops Q rest (a.put op.dst (.agg cs.toArray)) w) : wpList P ops Q (op :: rest) a w := wpList_load_wanted hw ty x ho b o hx cs d hc hu hd hi h
theorem wpList_binW {P : Program} {ops : Array Oper} {rest : List Oper} {op : Oper} {a : Act} {w : World} {Q : Exit → Act → World → Prop} (x y : Operand) (b : BinOp) (t z : TypeId) (ho : op.op = .binOp b t x y z) (u u' v : Value) (hx : a.eval x = u) (hy : a.eval y = u')
    (hg : (eqGuard b t x y u u').run P w = .ok () w) (hb : (binOp b t u u').run P w = .ok v w) (hw : Region.wanted op (yielded ops a.tmps) = true) (h : wpList P ops Q rest (a.put op.dst v) w) : wpList P ops Q (op :: rest) a w := wpList_wanted hw v (ex_binOp ho hx hy hg hb) h
theorem rt_eq_iff (r s : Rt) : r = s ↔ r.ver = s.ver ∧ r.sup = s.sup ∧ r.area = s.area ∧ r.keys = s.keys ∧ r.len = s.len ∧ r.pages = s.pages := by
  constructor
  · rintro rfl; exact ⟨rfl, rfl, rfl, rfl, rfl, rfl⟩
  · rintro ⟨h1, h2, h3, h4, h5, h6⟩; cases r; cases s; simp only at h1 h2 h3 h4 h5 h6; rw [h1, h2, h3, h4, h5, h6]
end Go.Proofs.YtoacdeddkfcllaaDoor
