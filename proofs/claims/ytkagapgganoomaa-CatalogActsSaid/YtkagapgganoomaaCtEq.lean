/- '==' on snapshots; where snapshots lie in memory. Own work. -/
import Derived.Test.YtkagapgganoomaaCtM
import Derived.Test.YtkagapgganoomaaCtA
import Derived.Test.YtkagapgganoomaaMem
namespace Go.Proofs.Ytkagapgganoomaa
open Go.ChangeShapes Go.WideShapes Go.ChangeAt Go.RowKit
open RT CT
theorem fieldsSn : ∃ f0 f1 : Field, (Try.prog.fieldsOf 60).toList = [f0, f1] ∧ (f0.name ≠ "_" ∧ f0.type = 9 ∧ f0.offset = 0) ∧ (f1.name ≠ "_" ∧ f1.type = 26 ∧ f1.offset = 1) := by
  simp only [Program.fieldsOf, Try.underlying60]
  exact ⟨_, _, rfl, ⟨by simp, rfl, rfl⟩, ⟨by simp, rfl, rfl⟩⟩
theorem infoRfC : (Try.prog.info? 26).map (·.size) = some 33 := by kernel_rfl
theorem infoSnC : (Try.prog.info? 60).map (·.size) = some 34 := by kernel_rfl
theorem infoCtC : (Try.prog.info? 29).map (·.size) = some 34 := by kernel_rfl
theorem infoSmC : (Try.prog.info? 24).map (·.size) = some 32 := by kernel_rfl
theorem sizeRfC (w : World) : (sizeOf 26).run Try.prog w = .ok 33 w := by kernel_rfl
def zsn : List Value := .string ⟨#[]⟩ :: zref
theorem infoSn : (Try.prog.info? 60).map (fun i => (i.zero, i.size, i.bytes)) = some (some (.agg zsn.toArray), 34, 56) := by kernel_rfl
theorem zeroCt (w : World) : (zeroValue 29).run Try.prog w = .ok (.agg (ctc CT.zero (.slice none 0 0)).toArray) w := by kernel_rfl
theorem zeroSn (w : World) : (zeroValue 60).run Try.prog w = .ok (.agg zsn.toArray) w := by kernel_rfl
theorem zeroRf (w : World) : (zeroValue 26).run Try.prog w = .ok (.agg (pc CT.zp).toArray) w := by kernel_rfl
/-- Are two snapshots one? -/
def snEq (s t : Sn) : Bool := decide (s.name = t.name) && pgEq s.top t.top
theorem snEq_iff {s t : Sn} : snEq s t = true ↔ s = t := by
  unfold snEq
  rw [Bool.and_eq_true, decide_eq_true_eq, pgEq_iff]
  constructor
  · rintro ⟨h1, h2⟩; cases s; cases t; simp only at h1 h2; rw [h1, h2]
  · rintro rfl; exact ⟨rfl, rfl⟩
theorem beq_bytes (a b : ByteArray) : (a == b) = decide (a = b) := by
  cases a with | mk a => cases b with | mk b =>
  show (a == b) = _
  rw [Bool.eq_iff_iff]; simp
theorem equalIn_str (w : World) (d : Nat) (a b : ByteArray) : (Op.equalIn (d + 1) 9 (.string a) (.string b)).run Try.prog w = .ok (decide (a = b)) w := by
  simp only [Op.equalIn, Sem.run_bind, run_underlying Try.underlying9, Result.andThen_ok, Sem.run_pure]
  congr 1
  exact beq_bytes a b
theorem part_str (w : World) (cs : List Value) (o : Nat) (v : Value) (h : cs[o]? = some v) : (part 9 cs.toArray o).run Try.prog w = .ok v w := by
  simp [part, isAgg, run_underlying Try.underlying9, h]
theorem part_ref (w : World) (cs : List Value) (o : Nat) (l : List Value) (hl : l.length = 33) (h : cs.drop o = l) : (part 26 cs.toArray o).run Try.prog w = .ok (.agg l.toArray) w := by
  simp only [part, isAgg, Sem.run_bind, run_underlying Try.underlying26, Sem.run_pure, Result.andThen_ok, sizeRfC, if_true]
  congr 2
  rw [List.extract_toArray]
  congr 1
  rw [List.extract_eq_take_drop, h, Nat.add_sub_cancel_left, List.take_of_length_le (by omega)]
set_option maxRecDepth 100000 in
theorem equal_snap (w : World) (d : Nat) {s t : Sn} (hs : Pok s.top) (ht : Pok t.top) :
    (Op.equalIn (d + 4) 60 (.agg (snc s).toArray) (.agg (snc t).toArray)).run Try.prog w = .ok (snEq s t) w := by
  have p0 : ∀ s : Sn, (part 9 (snc s).toArray 0).run Try.prog w = .ok (.string s.name) w := fun s => part_str w _ 0 _ rfl
  have p1 : ∀ {s : Sn}, Pok s.top → (part 26 (snc s).toArray 1).run Try.prog w = .ok (.agg (pc s.top).toArray) w := fun h => part_ref w _ 1 _ (pc_len h) rfl
  have q0 := equalIn_str w (d + 2) s.name t.name
  have q1 := equal_ref w d hs ht
  rw [run_equalIn_agg w (d + 3) 60 _ _ (by kernel_rfl) (by kernel_rfl)]
  obtain ⟨f0, f1, hL, h0, h1⟩ := fieldsSn
  rw [hL, eqFields_step w (d + 3) _ _ f0 _ _ _ h0 _ _ _ (p0 s) (p0 t) q0, eqFields_step w (d + 3) _ _ f1 _ _ _ h1 _ _ _ (p1 hs) (p1 ht) q1]
  simp only [Op.eqFields, Sem.run_pure]
  clear p0 p1 q0 q1 hs ht
  unfold snEq
  by_cases e0 : s.name = t.name
  · cases e1 : pgEq s.top t.top <;> simp [e0]
  · simp [e0]
theorem run_eql_snap {s t : Sn} (hs : Pok s.top) (ht : Pok t.top) (w : World) : (binOp .eql 60 (.agg (snc s).toArray) (.agg (snc t).toArray)).run Try.prog w = .ok (.bool (snEq s t)) w := by
  rw [run_eql_struct, equal_snap w 9996 hs ht]; rfl
theorem run_neq_snap {s t : Sn} (hs : Pok s.top) (ht : Pok t.top) (w : World) : (binOp .neq 60 (.agg (snc s).toArray) (.agg (snc t).toArray)).run Try.prog w = .ok (.bool (!snEq s t)) w := by
  have h := run_eql_snap hs ht w
  simp only [binOp, Sem.run_bind, Sem.run_pure] at h ⊢
  cases k : (Op.equal 60 (.agg (snc s).toArray) (.agg (snc t).toArray)).run Try.prog w with
  | ok b w' =>
    rw [k] at h
    simp only [Result.andThen_ok, Result.ok.injEq, Value.bool.injEq] at h ⊢
    exact ⟨by rw [h.1], h.2⟩
  | _ => rw [k] at h; simp [Result.andThen] at h
theorem eqTypeSn : Try.prog.eqGuardType Try.prog.depth 60 = false := by kernel_rfl
/-- The order of texts, compared. -/
theorem leq_raw (a b : ByteArray) (w : World) : (binOp .leq 9 (.string a) (.string b)).run Try.prog w = .ok (.bool (Op.bytesLess a.toList b.toList || (a.toList == b.toList))) w := rfl
theorem gtr_raw (a b : ByteArray) (w : World) : (binOp .gtr 9 (.string a) (.string b)).run Try.prog w = .ok (.bool (!(Op.bytesLess a.toList b.toList || (a.toList == b.toList)))) w := rfl
theorem leq_nlt (a b : ByteArray) : (Op.bytesLess a.toList b.toList || (a.toList == b.toList)) = !nlt b a := by
  unfold nlt
  rcases bl_tri a.toList b.toList with h | h | h
  · have := nlt_asymm (a := a) (b := b) h
    unfold nlt at this
    rw [h, this]; rfl
  · rw [h, bl_irr]; simp
  · have := nlt_asymm (a := b) (b := a) h
    unfold nlt at this
    rw [h, this]
    have hne : ¬ a.toList = b.toList := fun e => by rw [e, bl_irr] at h; cases h
    simpa using hne
theorem run_str_leq (a b : ByteArray) (w : World) : (binOp .leq 9 (.string a) (.string b)).run Try.prog w = .ok (.bool (!nlt b a)) w := by rw [leq_raw, leq_nlt]
theorem run_str_gtr (a b : ByteArray) (w : World) : (binOp .gtr 9 (.string a) (.string b)).run Try.prog w = .ok (.bool (nlt b a)) w := by rw [gtr_raw, leq_nlt, Bool.not_not]
theorem run_str_lss (a b : ByteArray) (w : World) : (binOp .lss 9 (.string a) (.string b)).run Try.prog w = .ok (.bool (nlt a b)) w := by
  unfold nlt; go_simp
theorem run_str_neq (a b : ByteArray) (w : World) : (binOp .neq 9 (.string a) (.string b)).run Try.prog w = .ok (.bool (!decide (a = b))) w := by
  by_cases h : a = b
  · subst h; go_simp
  · have hne : ¬ a.toList = b.toList := fun e => h (toList_inj e)
    go_simp
theorem eqG_str (op : BinOp) (x y : Operand) (a b : ByteArray) (w : World) : (eqGuard op 9 x y (.string a) (.string b)).run Try.prog w = .ok () w := by
  cases op <;> simp [eqGuard]
/-- The k-th snapshot, where it lies. -/
theorem sn_range {w : World} {ao : Option Addr} {cap n : Nat} {l : List Sn} (h : RdT 34 w (.slice ao n cap) n (sncs l)) (hp : ∀ s ∈ l, Pok s.top) (hn : n = l.length) {k : Nat} (hk : k < l.length) :
    ∃ b off, ao = some ⟨b, off, none⟩ ∧ w.rangeAt b (off + k * 34) (snc l[k]) ∧ w.cell? ⟨b, off + k * 34, none⟩ = some (.string l[k].name) ∧ w.rangeAt b (off + k * 34 + 1) (pc l[k].top) := by
  obtain ⟨b, off, e, hc⟩ := h.at_ (by decide) k (by omega)
  have hr : w.rangeAt b (off + k * 34) (snc l[k]) := fun i u hu => by
    have hi : i < 34 := by
      rw [← snc_len (hp _ (List.getElem_mem hk))]
      rcases Nat.lt_or_ge i (snc l[k]).length with q | q
      · exact q
      · rw [List.getElem?_eq_none q] at hu; cases hu
    have h2 := hc i u hi (by rw [sncs_get hp hk hi]; exact hu)
    rw [Nat.add_assoc]; exact h2
  refine ⟨b, off, e, hr, ?_, fun i u hu => ?_⟩
  · have := hr 0 _ rfl; exact this
  · have := hr (1 + i) u (by unfold snc; rw [Nat.add_comm, List.getElem?_cons_succ]; exact hu)
    rw [Nat.add_assoc (off + k * 34)]; exact this
/-- The parts of a catalog where it lies. -/
theorem ct_top {w : World} {b : Nat} {t : TypeId} {c : Ct} {v : Value} (h : Blk w b t (ctc c v)) : w.rangeAt b 0 (pc c.top) := fun i u hu => by
  rw [Nat.zero_add]
  have hi := (List.getElem?_eq_some_iff.1 hu).1
  exact h.cell i u (by unfold ctc; rw [List.getElem?_append_left hi]; exact hu)
theorem ct_sn {w : World} {b : Nat} {t : TypeId} {c : Ct} {v : Value} (h : Blk w b t (ctc c v)) (hc : Pok c.top) : w.cell? ⟨b, 33, none⟩ = some v := h.cell 33 _ (ctc_snaps hc v)
theorem ct_topE {w : World} {b : Nat} {t : TypeId} {c : Ct} {v : Value} {L : List Value} (h : Blk w b t L) (hL : L = ctc c v) : w.rangeAt b 0 (pc c.top) := by subst hL; exact ct_top h
theorem ctc_all {c : Ct} {v : Value} (h : v.oneCell' = true) : (ctc c v).toArray.all (·.oneCell') = true := by
  rw [List.all_toArray, List.all_eq_true]
  intro u hu
  unfold ctc at hu
  rcases List.mem_append.1 hu with q | q
  · exact pc_one' _ u q
  · simp at q; subst q; exact h
end Go.Proofs.Ytkagapgganoomaa
