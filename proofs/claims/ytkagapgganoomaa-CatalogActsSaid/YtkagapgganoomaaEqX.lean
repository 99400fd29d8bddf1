/- Texts of one subject in one file: EqStep, EqPart, BytesEq, WpOne, LoadWanted, Results, OwnAt, BlkRd, RdConst. Own work. -/
import Derived.Test.YtkagapgganoomaaMem
import Derived.WalkKit
import Derived.Test.YtkagapgganoomaaRows
import Derived.ProofKit
import Derived.Deep.MidRow
/- '==' on structs, one field after the other. Own work. -/
namespace Go.Proofs.Ytkagapgganoomaa
open Go.ChangeShapes Go.WideShapes Go.ChangeAt Go.RowKit
theorem part_cell {P : Program} (w : World) (e : TypeId) (k : IntKind) (hu : P.underlying e = some .bool ∨ P.underlying e = some (.int k)) (cs : List Value) (o : Nat) (v : Value) (h : cs[o]? = some v) :
    (part e cs.toArray o).run P w = .ok v w := by
  rcases hu with hu | hu
  · simp [part, isAgg, run_underlying hu, h]
  · simp [part, isAgg, run_underlying hu, h]
/-- One field further. -/
theorem eqFields_step {P : Program} (w : World) (d : Nat) (xs ys : Array Value) (f : Field) (fs : List Field) (t o : Nat) (hf : f.name ≠ "_" ∧ f.type = t ∧ f.offset = o) (a b : Value) (r : Bool) (ha : (part t xs o).run P w = .ok a w) (hb : (part t ys o).run P w = .ok b w) (hr : (Op.equalIn d t a b).run P w = .ok r w) :
    (Op.eqFields d xs ys (f :: fs)).run P w = if r then (Op.eqFields d xs ys fs).run P w else .ok false w := by
  obtain ⟨hn, rfl, rfl⟩ := hf
  simp only [Op.eqFields, if_pos hn, Sem.run_bind, ha, hb, hr, Result.andThen_ok]
  cases r <;> simp
end Go.Proofs.Ytkagapgganoomaa
/- '==' on arrays of bytes that are parts of something. Cut off SlMem in round 15. Own work. -/
namespace Go.Proofs.Ytkagapgganoomaa
open Go.ChangeShapes Go.WideShapes Go.ChangeAt Go.RowKit
theorem part_row {P : Program} (w : World) (e : TypeId) (n o : Nat) (el : TypeId) (hu : P.underlying e = some (.array n el)) (hs : ∀ w, (sizeOf e).run P w = .ok n w) (cs : List Value) (l : List Nat) (hl : l.length = n) (h : ∀ j v, (row8 l)[j]? = some v → cs[o + j]? = some v) :
    (part e cs.toArray o).run P w = .ok (.agg (row8 l).toArray) w := by
  simp only [part, isAgg, Sem.run_bind, run_underlying hu, Sem.run_pure, Result.andThen_ok, hs, if_true]
  congr 2
  rw [List.extract_toArray]
  congr 1
  rw [List.extract_eq_take_drop]
  apply List.ext_getElem?
  intro j
  by_cases hj : j < n
  · rw [List.getElem?_take_of_lt (by omega), List.getElem?_drop, row8_val l j (by omega), h j _ (row8_val l j (by omega))]
  · rw [List.getElem?_eq_none (by rw [List.length_take]; omega), List.getElem?_eq_none (by rw [row8_len]; omega)]
theorem equal_bytes {P : Program} (w : World) (d : Nat) (t e : TypeId) (n : Nat) (ht : P.underlying t = some (.array n e)) (he : P.underlying e = some (.int .u8)) (hsz : ∀ w, (sizeOf e).run P w = .ok 1 w) (x y : List Nat) (hx : Bytes n x) (hy : Bytes n y) :
    (Op.equalIn (d + 2) t (.agg (row8 x).toArray) (.agg (row8 y).toArray)).run P w = .ok (decide (x = y)) w := by
  have mx := gb_of_mem hx.2
  have my := gb_of_mem hy.2
  rw [row8_cells mx, row8_cells my, run_equalIn_bytes w d t e n ht he hsz _ _ (by rw [List.length_map]; exact hx.1) (by rw [List.length_map]; exact hy.1)]
  congr 1
  by_cases h : x = y
  · subst h; simp
  · have : ¬ x.map UInt8.ofNat = y.map UInt8.ofNat := fun e => h (map_ofNat_inj x y mx my e)
    simp [h, this]
end Go.Proofs.Ytkagapgganoomaa
/- bytes.Equal: contract. Own work. -/
namespace Go.Proofs.Ytkagapgganoomaa
open Go.ChangeShapes Go.WideShapes Go.ChangeAt Go.RowKit
theorem str_beq (S M : ByteArray) : (S.toList == M.toList) = decide (S = M) := by
  rw [ByteArray.toList_eq, ByteArray.toList_eq, Bool.eq_iff_iff, beq_iff_eq, decide_eq_true_iff]
  refine ⟨fun e => ?_, fun e => by rw [e]⟩
  cases S; cases M; congr 1; exact Array.toList_inj.1 e
theorem pequal_any (u v : Value) (l m : List Nat) (w : World) (hu : Rd w u l) (hv : Rd w v m) : Calls Try.prog 43 #[u, v] w fun e w' => e = .returned (.bool (decide (l = m))) ∧ w' = w := by
  obtain ⟨ua, uc, rfl, _⟩ := hu.shape
  obtain ⟨va, vc, rfl, _⟩ := hv.shape
  have cu := hu.str
  have cv := hv.str
  have hd : decide (bstr l = bstr m) = decide (l = m) := decide_eq_decide.2 (bstr_iff hu.byte hv.byte)
  have hb := str_beq (bstr l) (bstr m)
  rw [hd] at hb
  obtain ⟨S, hS⟩ : ∃ S, S = bstr l := ⟨_, rfl⟩
  obtain ⟨M, hM⟩ : ∃ S, S = bstr m := ⟨_, rfl⟩
  obtain ⟨R, hR⟩ : ∃ R, R = decide (l = m) := ⟨_, rfl⟩
  obtain ⟨ln, hln⟩ : ∃ n, n = l.length := ⟨_, rfl⟩
  obtain ⟨mn, hmn⟩ : ∃ n, n = m.length := ⟨_, rfl⟩
  rw [← hS, ← hM, ← hR] at hb
  have HB := Lib.hid hb
  rw [← hS, ← hln] at cu
  rw [← hM, ← hmn] at cv
  rw [← hR, ← hln, ← hmn]
  clear hu hv hd hS hM hR hln hmn hb
  go_enter Try.func43, Try.ntmps43
  go_wp2_with fail
  go_ret
  exact ⟨by rw [← HB.out]; rfl, rfl⟩
end Go.Proofs.Ytkagapgganoomaa
/- One operation of a region whose value is told. Own work. -/
namespace Go.Proofs.Ytkagapgganoomaa
open Go.RowKit
/-- An operation behind a guard that lets it be done, whose value is told. -/
theorem wpList_wanted {P : Program} {ops : Array Oper} {rest : List Oper} {op : Oper} {a : Act} {w : World} {Q : Exit → Act → World → Prop} (hw : Region.wanted op (yielded ops a.tmps) = true) (v : Value) (h : (execOp a.eval op).run P w = .ok (.value v) w) (hr : wpList P ops Q rest (a.put op.dst v) w) : wpList P ops Q (op :: rest) a w :=
  wpList_step fun K hK => by
    rw [if_pos hw]
    unfold Oper.wp
    rw [h]
    exact hK _ _ hr
/-- A struct or an array is built. -/
theorem ex_build {o : Oper} {a : Act} {w : World} {t : TypeId} {parts : Array (Nat × Operand)} {cells : Array Value} (ho : o.op = .build t parts) (h : Try.prog.built t (parts.map fun (i, x) => (i, a.eval x)).toList = some cells) : (execOp a.eval o).run Try.prog w = .ok (.value (.agg cells)) w := by
  unfold execOp
  rw [ho]
  simp only [Sem.run_bind, run_build w t _ _ h, Result.andThen_ok, Sem.run_pure]
end Go.Proofs.Ytkagapgganoomaa
/- A row loaded in an operation behind a guard. Own work. -/
namespace Go.Proofs.Ytkagapgganoomaa
open Go.ChangeShapes Go.WideShapes Go.ChangeAt Go.RowKit
/-- A row is loaded by value, in an operation behind a guard that lets it be done. -/
theorem wpList_load_wanted {P : Program} {ops : Array Oper} {rest : List Oper} {op : Oper} {a : Act} {w : World} {Q : Exit → Act → World → Prop} (hw : Region.wanted op (yielded ops a.tmps) = true) (ty : TypeId) (x : Operand) (ho : op.op = .load ty x)
    (b o : Nat) (hx : a.eval x = .pointer (some ⟨b, o, none⟩)) (cs : List Value) (d : TypeDesc) (hc : w.rangeAt b o cs)
    (hu : P.underlying ty = some d) (hd : d.isRow = true) (hi : (P.info? ty).map (·.size) = some cs.length)
    (h : wpList P ops Q rest (a.put op.dst (.agg cs.toArray)) w) : wpList P ops Q (op :: rest) a w :=
  wpList_step fun K hK => by rw [if_pos hw]; exact wp_load_mid ty x ho b o hx cs d hc hu hd hi (hK _ _ h)
end Go.Proofs.Ytkagapgganoomaa
/- Results that are a struct or an array, out of the variable in which it stands, and a slot. Own work. -/
namespace Go.Proofs.Ytkagapgganoomaa
open Go.RowKit
/-- Results that are a row of cells, out of the variable in which it stands, and a slot. -/
theorem results_mid2 {P : Program} {fn : Func} {p t : Tmp} {ty : TypeId} (h : fn.results = #[.cell p ty, .tmp t]) (tmps : Array Value) (w : World) (b : Nat) (cs : List Value) (d : TypeDesc)
    (hp : tmps.getD p undef = .pointer (some ⟨b, 0, none⟩)) (hr : w.rangeAt b 0 cs) (hu : P.underlying ty = some d) (hd : d.isRow = true) (hi : (P.info? ty).map (·.size) = some cs.length) :
    (results fn tmps).run P w = .ok (.tuple #[.agg cs.toArray, tmps.getD t undef]) w := by
  have hp' : tmps[p]?.getD undef = .pointer (some ⟨b, 0, none⟩) := by simpa using hp
  simp [results, h, hp', asAddr, run_loadVar_mid w b 0 ty cs d hr hu hd hi]
/-- Results that are two rows of cells, out of the variables in which they stand; a row and a slot. -/
theorem results_cc {P : Program} {fn : Func} {p q : Tmp} {ty tz : TypeId} (h : fn.results = #[.cell p ty, .cell q tz]) (tmps : Array Value) (w : World) (b c : Nat) (cs ds : List Value) (d e : TypeDesc)
    (hp : tmps.getD p undef = .pointer (some ⟨b, 0, none⟩)) (hq : tmps.getD q undef = .pointer (some ⟨c, 0, none⟩)) (hr : w.rangeAt b 0 cs) (hs : w.rangeAt c 0 ds) (hu : P.underlying ty = some d) (hv : P.underlying tz = some e) (hd : d.isRow = true) (he : e.isRow = true)
    (hi : (P.info? ty).map (·.size) = some cs.length) (hj : (P.info? tz).map (·.size) = some ds.length) :
    (results fn tmps).run P w = .ok (.tuple #[.agg cs.toArray, .agg ds.toArray]) w := by
  have hp' : tmps[p]?.getD undef = .pointer (some ⟨b, 0, none⟩) := by simpa using hp
  have hq' : tmps[q]?.getD undef = .pointer (some ⟨c, 0, none⟩) := by simpa using hq
  simp [results, h, hp', hq', asAddr, run_loadVar_mid w b 0 ty cs d hr hu hd hi, run_loadVar_mid w c 0 tz ds e hs hv he hj]
end Go.Proofs.Ytkagapgganoomaa
/- A cell of a slice of the call's own; a store turns one block. Own work. -/
namespace Go.Proofs.Ytkagapgganoomaa
open Go.RowKit
theorem own_at {w : World} {base n cap : Nat} {ao : Option Addr} {l : List Nat} (h : Own w base (.slice ao n cap) l) (hl : 0 < l.length) : ∃ b, ao = some ⟨b, 0, none⟩ := by
  rcases h.1.2 with ⟨_, q⟩ | ⟨g, cap', cur, q, _⟩
  · omega
  · injection q with q1 _ _
    exact ⟨g, q1⟩
theorem grownBy_cell (w : World) (b j : Nat) (v : Value) : w.grownBy (w.setCell ⟨b, j, none⟩ v) (some b) := only_set (World.grownBy.refl w (some b)) (p := ⟨b, j, none⟩) (.inl rfl) v
end Go.Proofs.Ytkagapgganoomaa
/- A piece of a block reads as bytes. Own work. -/
namespace Go.Proofs.Ytkagapgganoomaa
open Go.RowKit
theorem blk_rd_at {w : World} {g : Nat} {t : TypeId} {l : List Nat} (h : Blk w g t (row8 l)) (hb : ∀ k, gb l k < 256) (o n cap : Nat) (hn : o + n ≤ l.length) (hc : n ≤ cap) (hf : l.length ≤ 140737488355328) : Rd w (.slice (some ⟨g, o, none⟩) n cap) ((l.drop o).take n) := by
  have e1 : ((l.drop o).take n).length = n := by rw [List.length_take, List.length_drop]; omega
  refine ⟨gb_take_byte _ n (fun k => by rw [gb_drop]; exact hb _), by rw [e1]; omega, .inr ⟨_, cap, by rw [e1], by rw [e1]; exact hc, fun j hj => ?_⟩⟩
  rw [gb_take _ n j (by omega), gb_drop, Addr.add_mid]
  exact h.cell (o + j) _ (row8_val l (o + j) (by omega))
end Go.Proofs.Ytkagapgganoomaa
/- A constant text's bytes in memory. Own work. -/
namespace Go.Proofs.Ytkagapgganoomaa
open Go.RowKit
/-- A constant text's bytes. -/
theorem rd_const (w : World) (l : List Nat) (hl : ∀ k, gb l k < 256) (hf : l.length ≤ 140737488355328) (n : Nat) (hn : n = l.length) (b : Nat) (hb : b = w.heap.size) (mk : Nat × Nat) : Rd (w.alloc (.cells (row8 l).toArray 5 mk)) (.slice (some ⟨b, 0, none⟩) n n) l := by
  subst hb; subst hn
  refine ⟨hl, hf, .inr ⟨_, _, rfl, Nat.le_refl _, fun j hj => ?_⟩⟩
  rw [Addr.add_mid, World.cell?_alloc_mark, Nat.zero_add]
  exact row8_get l j hj
theorem small_bytes {l : List Nat} (h : l.all (· < 256) = true) (k : Nat) : gb l k < 256 := by
  unfold gb
  rw [List.getD_eq_getElem?_getD]
  cases q : l[k]? with
  | none => show 0 < 256; omega
  | some x =>
    rw [List.all_eq_true] at h
    simpa using h x (List.mem_of_getElem? q)
end Go.Proofs.Ytkagapgganoomaa
