/- Texts of one subject in one file: Row8, OctMem, RdCut, Be, CopyRow, RowArg, Args, RowEql, Text, IntArr, Rds. Own work. -/
import Derived.Test.YtkagapgganoomaaRows
import Derived.WalkKit
import Derived.ProofKit
import Derived.Lib.Hide
import Derived.Deep.MidRow
import Derived.WalkSpells
import Derived.Laws.BytesArg
import Derived.Laws.AppendOwnNone
import Derived.Deep.AppendLies
import Derived.Deep.AppendSrc
import Derived.Maps.AppendAt
import Derived.BigQuiet
import Derived.Laws.BitsAllLaws
import Derived.Laws.Shifts
import Derived.Outline
import Derived.Laws.CopyOwn
import Derived.OpenShut
import Derived.DataShut
import Derived.DataReads
import Derived.ChangeSame
import Derived.Below
import Derived.SizedLaws
import Derived.ChangeSlices
import Derived.ChangeMaps5
import Derived.Carry
import Derived.Stop.BytesEq
import Derived.Laws.StructEq
/- Rows of bytes by value: an array's cells as a list of numbers. -/
namespace Go.Proofs.Ytkagapgganoomaa
open Go.ChangeShapes Go.WideShapes Go.ChangeAt Go.RowKit
def row8 (l : List Nat) : List Value := l.map fun n : Nat => Value.int .u8 (n : Int)
theorem row8_len (l : List Nat) : (row8 l).length = l.length := by unfold row8; simp
theorem row8_at (l : List Nat) (k : Nat) : (row8 l).toArray[k]? = (l[k]?).map (fun n : Nat => Value.int .u8 (n : Int)) := by unfold row8; simp
def gb (l : List Nat) (k : Nat) : Nat := l.getD k 0
theorem row8_get (l : List Nat) (k : Nat) (h : k < l.length) : (row8 l).toArray[k]? = some (.int .u8 ((gb l k : Nat) : Int)) := by
  rw [row8_at]; unfold gb; rw [List.getD_eq_getElem?_getD, List.getElem?_eq_getElem h]; rfl
theorem row8_set (l : List Nat) (k v : Nat) : (row8 l).set k (.int .u8 (v : Int)) = row8 (l.set k v) := by
  unfold row8; simp
def Bytes (n : Nat) (l : List Nat) : Prop := l.length = n ∧ ∀ k, gb l k < 256
theorem bytes_zero (n : Nat) : Bytes n (List.replicate n 0) := by
  refine ⟨by simp, fun k => ?_⟩
  unfold gb; rw [List.getD_eq_getElem?_getD, List.getElem?_replicate]; split <;> simp
theorem gb_set (l : List Nat) (k v j : Nat) (h : k < l.length) : gb (l.set k v) j = if k = j then v else gb l j := by
  unfold gb
  rw [List.getD_eq_getElem?_getD, List.getD_eq_getElem?_getD, List.getElem?_set]
  by_cases e : k = j
  · subst e; simp [h]
  · simp [e]
theorem bytes_set {n : Nat} {l : List Nat} (h : Bytes n l) (k v : Nat) (hk : k < n) (hv : v < 256) : Bytes n (l.set k v) := by
  refine ⟨by rw [List.length_set]; exact h.1, fun j => ?_⟩
  rw [gb_set l k v j (by rw [h.1]; exact hk)]
  split
  · exact hv
  · exact h.2 j
theorem bytes_ext {n : Nat} {a b : List Nat} (ha : a.length = n) (hb : b.length = n) (h : ∀ k, k < n → gb a k = gb b k) : a = b := by
  apply List.ext_getElem (by omega)
  intro i h1 h2
  have e := h i (by omega)
  unfold gb at e
  rw [List.getD_eq_getElem?_getD, List.getD_eq_getElem?_getD, List.getElem?_eq_getElem h1, List.getElem?_eq_getElem h2] at e
  exact e
theorem row8_one (l : List Nat) : (row8 l).toArray.all (·.oneCell') = true := by
  unfold row8; simp [Value.oneCell']

/-- An array by value at an index in its bounds. -/
theorem run_index_row {P : Program} (t e : TypeId) (n : Nat) (cs : Array Value) (k : Nat) (v : Value) (h : P.underlying t = some (.array n e)) (hn : k < n) (h1 : (P.info? e).map (·.size) = some 1) (ha : ∀ w, (isAgg e).run P w = .ok false w) (hv : cs[k]? = some v) (w : World) :
    (Instr.index t (.agg cs) (.int .i64 k)).run P w = .ok v w := by
  have hk : (0 : Int) ≤ k ∧ (k : Int) < n := by omega
  cases hq : P.info? e with
  | none => simp [hq] at h1
  | some i =>
    simp [hq] at h1
    have hs : ∀ w, (sizeOf e).run P w = .ok 1 w := fun w => by simp [sizeOf, typeInfo, hq, h1]
    simp [Instr.index, run_underlying h, asIntOf, hk, hn, hs, ha, hv, go_sem]
theorem _root_.Go.World.rangeAt.alloc {w : World} {b o : Nat} {cs : List Value} (h : w.rangeAt b o cs) (ob : Obj) : (w.alloc ob).rangeAt b o cs := World.rangeAt_alloc h ob
theorem rangeAt_new (w : World) (cs : List Value) (t : TypeId) : (w.alloc (.cells cs.toArray t)).rangeAt w.heap.size 0 cs := fun j v hv => by
  rw [World.cell?_alloc_at _ _ _ _ rfl]; simpa using hv
theorem there_new (w : World) (cs : Array Value) (t : TypeId) (n : Nat) (h : cs.size = n) : (w.alloc (.cells cs t)).there w.heap.size 0 n := fun j hj => by
  refine ⟨?_, ?_⟩
  · rw [World.cell?_alloc_at _ _ _ _ rfl, Nat.zero_add, Array.getElem?_eq_getElem (by omega)]; rfl
  · simp [go_sem]
theorem rangeAt_at (w : World) (cs : List Value) (t : TypeId) (n : Nat) (h : n = w.heap.size) : (w.alloc (.cells cs.toArray t)).rangeAt n 0 cs := by
  subst h; exact rangeAt_new w cs t
theorem there_at (w : World) (cs : Array Value) (t : TypeId) (m n : Nat) (h : n = w.heap.size) (hc : cs.size = m) : (w.alloc (.cells cs t)).there n 0 m := by
  subst h; exact there_new w cs t m hc
/-- A result that is a row of cells, out of the variable in which it stands. -/
theorem results_mid {P : Program} {fn : Func} {p : Tmp} {ty : TypeId} (h : fn.results = #[.cell p ty]) (tmps : Array Value) (w : World) (b : Nat) (cs : List Value) (d : TypeDesc)
    (hp : tmps.getD p undef = .pointer (some ⟨b, 0, none⟩)) (hr : w.rangeAt b 0 cs) (hu : P.underlying ty = some d) (hd : d.isRow = true) (hi : (P.info? ty).map (·.size) = some cs.length) :
    (results fn tmps).run P w = .ok (.agg cs.toArray) w := by
  have hp' : tmps[p]?.getD undef = .pointer (some ⟨b, 0, none⟩) := by simpa using hp
  simp [results, h, hp', asAddr, run_loadVar_mid w b 0 ty cs d hr hu hd hi]
theorem below_setCells {B : Nat} {a : World} (b : Nat) (hb : B ≤ b) : ∀ (vs : List Value) (o : Nat) (w : World), Below B a w → Below B a (w.setCells b o vs)
  | [], _, _, h => h
  | v :: r, o, _, h => below_setCells b hb r (o + 1) _ (h.setCell hb v)

/-- Block b holds just these cells, of an array (or a struct) of type t, and may be written. -/
def Blk (w : World) (b : Nat) (t : TypeId) (vs : List Value) : Prop := w.heap[b]? = some (.cells vs.toArray t (0, 0))
theorem Blk.cell {w : World} {b : Nat} {t : TypeId} {vs : List Value} (h : Blk w b t vs) (j : Nat) (v : Value) (hv : vs[j]? = some v) : w.cell? ⟨b, j, none⟩ = some v := by
  rw [cell_of_row w b j _ t _ h]; simpa using hv
theorem Blk.free {w : World} {b : Nat} {t : TypeId} {vs : List Value} (h : Blk w b t vs) (j : Nat) : w.frozen? ⟨b, j, none⟩ = false := frozen_of_row w b j _ t h
theorem Blk.range {w : World} {b : Nat} {t : TypeId} {vs : List Value} (h : Blk w b t vs) : w.rangeAt b 0 vs := fun j v hv => by
  rw [Nat.zero_add]; exact h.cell j v hv
theorem Blk.there {w : World} {b : Nat} {t : TypeId} {vs : List Value} (h : Blk w b t vs) (n : Nat) (hn : vs.length = n) : w.there b 0 n := fun j hj => by
  refine ⟨?_, h.free _⟩
  have e : vs[j]? = some (vs[j]'(by omega)) := List.getElem?_eq_getElem (by omega)
  rw [Nat.zero_add, h.cell j _ e]; rfl
theorem Blk.drew {w : World} {b : Nat} {t : TypeId} {vs : List Value} (h : Blk w b t vs) : Blk w.drew b t vs := h
theorem Blk.lt {w : World} {b : Nat} {t : TypeId} {vs : List Value} (h : Blk w b t vs) : b < w.heap.size := by
  by_cases hlt : b < w.heap.size
  · exact hlt
  · have hn : w.heap[b]? = none := by simp; omega
    unfold Blk at h; rw [hn] at h; cases h
theorem Blk.alloc {w : World} {b : Nat} {t : TypeId} {vs : List Value} (h : Blk w b t vs) (o : Obj) : Blk (w.alloc o) b t vs := by
  unfold Blk; rw [Below.heap_alloc w o b h.lt]; exact h
theorem Blk.new (w : World) (t : TypeId) (vs : List Value) (b : Nat) (hb : b = w.heap.size) : Blk (w.alloc (.cells vs.toArray t)) b t vs := by
  subst hb; exact heap_alloc_new w _
theorem Blk.below {B : Nat} {w w' : World} {b : Nat} {t : TypeId} {vs : List Value} (h : Blk w b t vs) (hb : Below B w w') (hlt : b < B) : Blk w' b t vs := by
  unfold Blk; rw [hb.block b hlt]; exact h
theorem Blk.set {w : World} {b : Nat} {t : TypeId} {vs : List Value} (h : Blk w b t vs) (j : Nat) (v : Value) : Blk (w.setCell ⟨b, j, none⟩ v) b t (vs.set j v) := by
  unfold Blk; rw [heap_setCell_same w b j _ t v h]; simp
theorem Blk.other {w : World} {b : Nat} {t : TypeId} {vs : List Value} (h : Blk w b t vs) (a : Addr) (v : Value) (hne : b ≠ a.block) : Blk (w.setCell a v) b t vs := by
  unfold Blk; rw [heap_setCell_other w a b v hne]; exact h
theorem Blk.others {b : Nat} {t : TypeId} {vs : List Value} (c : Nat) (hne : b ≠ c) : ∀ (us : List Value) (o : Nat) (w : World), Blk w b t vs → Blk (w.setCells c o us) b t vs
  | [], _, _, h => h
  | u :: r, o, _, h => Blk.others c hne r (o + 1) _ (h.other _ u hne)
theorem setCells_list (b : Nat) (t : TypeId) : ∀ (us : List Value) (o : Nat) (w : World) (vs : List Value), Blk w b t vs → o + us.length = vs.length → Blk (w.setCells b o us) b t (vs.take o ++ us)
  | [], o, w, vs, h, hl => by
    simp at hl; subst hl; simpa [World.setCells] using h
  | u :: r, o, w, vs, h, hl => by
    have := setCells_list b t r (o + 1) (w.setCell ⟨b, o, none⟩ u) (vs.set o u) (h.set o u) (by simp at hl ⊢; omega)
    have ho : o < vs.length := by simp at hl; omega
    have e : (vs.set o u).take (o + 1) = vs.take o ++ [u] := by
      rw [List.take_succ_eq_append_getElem (by simpa using ho), List.take_set_of_le (by omega)]; simp
    rw [e, List.append_assoc] at this
    exact this
theorem Blk.whole {w : World} {b : Nat} {t : TypeId} {vs : List Value} (h : Blk w b t vs) (us : List Value) (hl : us.length = vs.length) : Blk (w.setCells b 0 us) b t us := by
  have := setCells_list b t us 0 w vs h (by omega)
  simpa using this
theorem row8_val (l : List Nat) (k : Nat) (h : k < l.length) : (row8 l)[k]? = some (.int .u8 ((gb l k : Nat) : Int)) := by
  have := row8_get l k h
  simpa using this
end Go.Proofs.Ytkagapgganoomaa
/- Slices of bytes in memory: what reads as a list of numbers, what the call owns, what append makes of them. Own work. -/
namespace Go.Proofs.Ytkagapgganoomaa
open Go.RowKit

theorem add_block (a : Addr) (n : Nat) : (a.add n).block = a.block := by unfold Addr.add; split <;> rfl
/-- The slice v holds the bytes l. -/
structure Rd (w : World) (v : Value) (l : List Nat) : Prop where
  byte : ∀ k, gb l k < 256
  fits : l.length ≤ 140737488355328
  form : (v = .slice none 0 0 ∧ l = []) ∨ ∃ ad cap, v = .slice (some ad) l.length cap ∧ l.length ≤ cap ∧ ∀ j, j < l.length → w.cell? (ad.add j) = some (.int .u8 ((gb l j : Nat) : Int))

theorem Rd.shape {w : World} {v : Value} {l : List Nat} (h : Rd w v l) : ∃ ao cap, v = .slice ao l.length cap ∧ l.length ≤ cap := by
  rcases h.form with ⟨e, q⟩ | ⟨ad, cap, e, hc, _⟩
  · subst q; exact ⟨none, 0, e, Nat.le_refl _⟩
  · exact ⟨some ad, cap, e, hc⟩
theorem Rd.keep {w w' : World} {v : Value} {l : List Nat} (h : Rd w v l) (hk : ∀ g, v.ownBlock = some g → g < w.heap.size → w'.heap[g]? = w.heap[g]?) : Rd w' v l := by
  refine ⟨h.byte, h.fits, ?_⟩
  rcases h.form with q | ⟨ad, cap, e, hc, hs⟩
  · exact .inl q
  · refine .inr ⟨ad, cap, e, hc, fun j hj => ?_⟩
    have h1 := hs j hj
    have hlt := World.block_lt_of_cell? w _ h1
    rw [add_block] at hlt
    rw [World.cell?_of_block (w := w) (by rw [add_block]; exact hk ad.block (by rw [e]; rfl) hlt)]; exact h1
theorem Rd.below {w w' : World} {v : Value} {l : List Nat} (h : Rd w v l) (hb : Below w.heap.size w w') : Rd w' v l := h.keep fun g _ hg => hb.block g hg
theorem Rd.later {w w' : World} {v : Value} {l : List Nat} (h : Rd w v l) {B : Nat} (hB : B = w.heap.size) (hb : Below B w w') : Rd w' v l := h.below (hB ▸ hb)
theorem Rd.grown {w w' : World} {v : Value} {l : List Nat} (h : Rd w v l) {row : Option Nat} (hb : w.grownBy w' row) (hne : v.ownBlock = none ∨ v.ownBlock ≠ row) : Rd w' v l := h.keep fun g hg hlt => hb.block g hlt (by
  rcases hne with q | q
  · rw [q] at hg; cases hg
  · rw [← hg]; exact q)
theorem Rd.drew {w : World} {v : Value} {l : List Nat} (h : Rd w v l) : Rd w.drew v l := h.keep fun _ _ _ => rfl
theorem Rd.alloc {w : World} {v : Value} {l : List Nat} (h : Rd w v l) (o : Obj) : Rd (w.alloc o) v l := h.keep fun g _ hg => Below.heap_alloc w o g hg
theorem Rd.setCell {w : World} {v : Value} {l : List Nat} (h : Rd w v l) (p : Addr) (u : Value) (hne : v.ownBlock ≠ some p.block) : Rd (w.setCell p u) v l :=
  h.keep fun g hg _ => Below.heap_setCell w p u g (fun e => hne (by rw [hg, e]))
theorem gb_nil (k : Nat) : gb [] k = 0 := rfl
theorem Rd.none_ (w : World) : Rd w (.slice none 0 0) [] := ⟨fun k => by rw [gb_nil]; omega, by simp, .inl ⟨rfl, rfl⟩⟩

/-- The string of these bytes. -/
def bstr (l : List Nat) : ByteArray := strOfNums (l.map fun n : Nat => (n : Int))
theorem bstr_size (l : List Nat) : (bstr l).size = l.length := by unfold bstr; rw [strOfNums_size, List.length_map]
/-- The bytes of a string. -/
def sb (s : ByteArray) : List Nat := s.data.toList.map UInt8.toNat
theorem sb_len (s : ByteArray) : (sb s).length = s.size := by unfold sb; rw [List.length_map, Array.length_toList]; rfl
theorem sb_byte (s : ByteArray) (k : Nat) : gb (sb s) k < 256 := by
  unfold gb sb
  rw [List.getD_eq_getElem?_getD, List.getElem?_map]
  cases h : s.data.toList[k]? with
  | none => simp
  | some b => simpa using b.toNat_lt
theorem byteCells_row (s : ByteArray) : byteCells s = row8 (sb s) := by
  unfold byteCells row8 sb; rw [List.map_map]; rfl
theorem bstr_sb (s : ByteArray) : bstr (sb s) = s := by
  cases s with
  | mk d =>
    unfold bstr strOfNums sb
    congr 1
    apply Array.toList_inj.1
    simp [List.map_map, Function.comp_def]
theorem Rd.str {w : World} {v : Value} {l : List Nat} (h : Rd w v l) : (convert 33 9 v).run Try.prog w = .ok (.string (bstr l)) w := by
  rcases h.form with ⟨e, q⟩ | ⟨ad, cap, e, hc, hs⟩
  · subst e; subst q
    rw [run_convert_bytes_nil (P := Try.prog) w 33 5 Try.underlying33 Try.underlying5 0 0 9 Try.underlying9]
    rfl
  · subst e
    have hl : (loadCells ad l.length).run Try.prog w = .ok ((l.map fun n : Nat => (n : Int)).map (Value.int .u8)).toArray w := by
      have := run_loadCells_list (P := Try.prog) w ad ((l.map fun n : Nat => (n : Int)).map (Value.int .u8)) (fun j u hu => by
        rw [List.map_map, List.getElem?_map] at hu
        by_cases hj : j < l.length
        · rw [List.getElem?_eq_getElem hj] at hu
          have h1 := hs j hj
          unfold gb at h1
          rw [List.getD_eq_getElem?_getD, List.getElem?_eq_getElem hj] at h1
          rw [h1, ← hu]; rfl
        · rw [List.getElem?_eq_none (by omega)] at hu; cases hu)
      simpa using this
    rw [run_convert_bytes_string w 33 9 5 _ l.length cap Try.underlying33 Try.underlying5 Try.underlying9, run_bytesToString w ad l.length cap _ hl, foldl_push_bytes]
    unfold bstr strOfNums
    simp [ByteArray.empty, ByteArray.emptyWithCapacity]
    rfl

/-- The call's own slice: v, of blocks from base on, holds the bytes l. -/
def Own (w : World) (base : Nat) (v : Value) (l : List Nat) : Prop := w.ownsRow base 5 1 v l.length (row8 l) ∧ (∀ k, gb l k < 256) ∧ l.length ≤ 140737488355328
theorem Own.rd {w : World} {base : Nat} {v : Value} {l : List Nat} (h : Own w base v l) : Rd w v l := by
  obtain ⟨ho, hb, hl⟩ := h
  refine ⟨hb, hl, ?_⟩
  rcases ho.2 with ⟨e, q⟩ | ⟨g, cap, cur, e, _, hh, hc, _, _, ht⟩
  · exact .inl ⟨e, List.eq_nil_of_length_eq_zero q⟩
  · refine .inr ⟨_, cap, e, hc, fun j hj => ?_⟩
    rw [Addr.add_lit, Nat.zero_add, cell_of_row w g j cur _ _ hh]
    have h1 := row8_val l j hj
    rw [← ht, List.getElem?_take, if_pos (by omega)] at h1
    simpa using h1
theorem Own.from {w : World} {base : Nat} {v : Value} {l : List Nat} (h : Own w base v l) : ∀ g, v.ownBlock = some g → base ≤ g ∧ g < w.heap.size := h.1.lt
theorem Own.keep {w w' : World} {base : Nat} {v : Value} {l : List Nat} (h : Own w base v l) {row : Option Nat} (hg : w.grownBy w' row) (hne : v.ownBlock = none ∨ v.ownBlock ≠ row) : Own w' base v l := ⟨h.1.kept hg hne, h.2⟩
theorem grown_of_below {w w' : World} (h : Below w.heap.size w w') (row : Option Nat) : w.grownBy w' row := ⟨h.os, h.tape, h.output, h.size, fun k hk _ => h.block k hk⟩
theorem below_of_grown {w w' : World} (h : w.grownBy w' none) : Below w.heap.size w w' := ⟨h.os, h.tape, h.output, h.size, fun k hk => h.block k hk (by simp)⟩
theorem _root_.Go.RowKit.Below.on {a b c : World} (h : Below a.heap.size a b) (k : Below b.heap.size b c) : Below a.heap.size a c := h.trans (k.mono h.size)
theorem own_none (v : Value) : v.ownBlock = none ∨ v.ownBlock ≠ none := by
  cases v.ownBlock with
  | none => exact .inl rfl
  | some g => exact .inr (by simp)
theorem Own.below {w w' : World} {base : Nat} {v : Value} {l : List Nat} (h : Own w base v l) (hb : Below w.heap.size w w') : Own w' base v l := h.keep (grown_of_below hb none) (own_none v)
theorem Own.drew {w : World} {base : Nat} {v : Value} {l : List Nat} (h : Own w base v l) : Own w.drew base v l := ⟨h.1.drew, h.2⟩
theorem Own.alloc {w : World} {base : Nat} {v : Value} {l : List Nat} (h : Own w base v l) (o : Obj) : Own (w.alloc o) base v l := ⟨h.1.alloc o, h.2⟩
theorem Own.lower {w : World} {base b' : Nat} {v : Value} {l : List Nat} (h : Own w base v l) (hb : b' ≤ base) : Own w b' v l := by
  refine ⟨⟨h.1.1, ?_⟩, h.2⟩
  rcases h.1.2 with q | ⟨g, cap, cur, e, hg, r⟩
  · exact .inl q
  · exact .inr ⟨g, cap, cur, e, Nat.le_trans hb hg, r⟩
theorem infoB : (Try.prog.info? 5).map (fun i => (i.zero, i.size, i.bytes)) = some (some (.int .u8 0), 1, 1) := by kernel_rfl
theorem row8_one' (l : List Nat) : ∀ u ∈ row8 l, u.oneCell' = true := by
  intro u hu
  unfold row8 at hu
  obtain ⟨n, _, rfl⟩ := List.mem_map.1 hu
  rfl
theorem row8_app (l m : List Nat) : row8 (l ++ m) = row8 l ++ row8 m := by unfold row8; rw [List.map_append]
theorem gb_app (l m : List Nat) (hl : ∀ k, gb l k < 256) (hm : ∀ k, gb m k < 256) (k : Nat) : gb (l ++ m) k < 256 := by
  unfold gb
  rw [List.getD_eq_getElem?_getD, List.getElem?_append]
  by_cases h : k < l.length
  · rw [if_pos h]; have := hl k; unfold gb at this; rwa [List.getD_eq_getElem?_getD] at this
  · rw [if_neg h]; have := hm (k - l.length); unfold gb at this; rwa [List.getD_eq_getElem?_getD] at this

/-- append of whatever bytes onto a slice of the call's own. -/
theorem run_app (w : World) (ty : TypeId) (base : Nat) (v y : Value) (l m : List Nat) (ho : Own w base v l) (hr : Rd w y m) (hn : l.length + m.length ≤ 140737488355328) (hb : base ≤ w.heap.size) :
    ∃ v' w', (Builtin.append_ #[33, 33] ty #[v, y]).run Try.prog w = .ok v' w' ∧ Own w' base v' (l ++ m) ∧ w.grownBy w' v.ownBlock ∧ (v'.ownBlock = v.ownBlock ∨ v'.ownBlock = some w.heap.size) := by
  obtain ⟨i0, hi, hz0, hz1, hz2⟩ := info_parts infoB
  have hby : ∀ k, gb (l ++ m) k < 256 := gb_app l m ho.2.1 hr.byte
  rcases hr.form with ⟨rfl, rfl⟩ | ⟨ad, cap, rfl, _, hs⟩
  · exact ⟨v, w, run_append_owned_none (P := Try.prog) (w := w) base 33 ty 5 i0 1 Try.underlying33 hi v _ _ ho.1, by rw [List.append_nil]; exact ho, World.grownBy.refl w _, .inl rfl⟩
  · obtain ⟨v', w', hrun, h2, h3, _, h5⟩ := run_append_own_at (P := Try.prog) w base 33 ty 5 i0 (.int .u8 0) 1 1 Try.underlying33 hi hz0 hz1 hz2 rfl (by decide) v l.length (row8 l) ho.1 ad m.length cap (row8 m) (by rw [row8_len, Nat.mul_one])
      (fun j u hu => by
        by_cases hj : j < m.length
        · rw [row8_val m j hj] at hu; rw [hs j hj, ← hu]
        · rw [List.getElem?_eq_none (by rw [row8_len]; omega)] at hu; cases hu) (row8_one' m) (by unfold maxLen; omega) (by omega) hb
    exact ⟨v', w', hrun, ⟨by rw [List.length_append, row8_app]; exact h2, hby, by rw [List.length_append]; exact hn⟩, h3, h5⟩
theorem wp_app {o : Oper} {a : Act} {w : World} {K : Act → World → Prop} {Q : Exit → Act → World → Prop} (s x : Operand) (ho : o.op = .call { callee := .builtin .append, args := #[s, x], argTypes := #[33, 33] })
    (base : Nat) (v y : Value) (l m : List Nat) (hs : a.eval s = v) (hx : a.eval x = y) (hv : Own w base v l) (hy : Rd w y m) (hn : l.length + m.length ≤ 140737488355328) (hb : base ≤ w.heap.size)
    (h : ∀ v' w', Own w' base v' (l ++ m) → w.grownBy w' v.ownBlock → (v'.ownBlock = v.ownBlock ∨ v'.ownBlock = some w.heap.size) → K (a.put o.dst v') w') : o.wp Try.prog a w K Q := by
  obtain ⟨v', w', hrun, h2, h3, h4⟩ := run_app w o.type base v y l m hv hy hn hb
  unfold Oper.wp
  simp only [execOp, ho, resolve, invoke, builtin, Sem.run_bind, Sem.run_pure, Result.andThen_ok, List.map_toArray, List.map_cons, List.map_nil, hs, hx, hrun]
  exact h v' w' h2 h3 h4
theorem wpList_app {ops : Array Oper} {rest : List Oper} {o : Oper} {a : Act} {w : World} {Q : Exit → Act → World → Prop} (hgd : o.guard = none) (s x : Operand) (ho : o.op = .call { callee := .builtin .append, args := #[s, x], argTypes := #[33, 33] })
    (base : Nat) (v y : Value) (l m : List Nat) (hs : a.eval s = v) (hx : a.eval x = y) (hv : Own w base v l) (hy : Rd w y m) (hn : l.length + m.length ≤ 140737488355328) (hb : base ≤ w.heap.size)
    (h : ∀ v' w', Own w' base v' (l ++ m) → w.grownBy w' v.ownBlock → (v'.ownBlock = v.ownBlock ∨ v'.ownBlock = some w.heap.size) → wpList Try.prog ops Q rest (a.put o.dst v') w') : wpList Try.prog ops Q (o :: rest) a w :=
  wpList_plain hgd fun _ hK => wp_app s x ho base v y l m hs hx hv hy hn hb fun v' w' h2 h3 h4 => hK _ _ (h v' w' h2 h3 h4)
theorem step_app {ops : Array Oper} {o : Oper} {a : Act} {w : World} {K : Act → World → Prop} {Q : Exit → Act → World → Prop} {E : Prop} (hgd : o.guard = none) (s x : Operand) (ho : o.op = .call { callee := .builtin .append, args := #[s, x], argTypes := #[33, 33] })
    (base : Nat) (v y : Value) (l m : List Nat) (hs : a.eval s = v) (hx : a.eval x = y) (hv : Own w base v l) (hy : Rd w y m) (hn : l.length + m.length ≤ 140737488355328) (hb : base ≤ w.heap.size)
    (h : ∀ v' w', Own w' base v' (l ++ m) → w.grownBy w' v.ownBlock → (v'.ownBlock = v.ownBlock ∨ v'.ownBlock = some w.heap.size) → K (a.put o.dst v') w') : if Region.wanted o (yielded ops a.tmps) = true then Oper.wp Try.prog o a w K Q else E := by
  rw [if_pos (by simp [Region.wanted, hgd])]
  exact wp_app s x ho base v y l m hs hx hv hy hn hb h
theorem own_new (w : World) (l : List Nat) (hl : ∀ k, gb l k < 256) (hf : l.length ≤ 140737488355328) {b : Nat} (hb : b = w.heap.size) {base : Nat} (h0 : base ≤ w.heap.size) :
    Own (w.alloc (.cells (row8 l).toArray 5)) base (.slice (some ⟨b, 0, none⟩) l.length l.length) l := by
  subst hb
  refine ⟨⟨by rw [row8_len, Nat.mul_one], .inr ⟨_, _, _, rfl, h0, heap_alloc_new w _, Nat.le_refl _, by unfold maxLen; omega, ?_, ?_⟩⟩, hl, hf⟩
  · simp [row8_len]
  · simp [← row8_len l]
theorem own_empty (w : World) {b : Nat} (hb : b = w.heap.size) {base : Nat} (h0 : base ≤ w.heap.size) : Own (w.alloc (.cells #[] 5)) base (.slice (some ⟨b, 0, none⟩) 0 0) [] :=
  own_new w [] (fun k => by rw [gb_nil]; omega) (by simp) hb h0
theorem Own.set {w : World} {base g cap : Nat} {l : List Nat} (h : Own w base (.slice (some ⟨g, 0, none⟩) l.length cap) l) (j x : Nat) (hx : x < 256) (hj : j < l.length) : Own (w.setCell ⟨g, j, none⟩ (.int .u8 (x : Int))) base (.slice (some ⟨g, 0, none⟩) l.length cap) (l.set j x) := by
  refine ⟨?_, (bytes_set ⟨rfl, h.2.1⟩ j x hj hx).2, by rw [List.length_set]; exact h.2.2⟩
  rw [← row8_set, List.length_set]
  exact (h.1.stored j _).1
end Go.Proofs.Ytkagapgganoomaa
/- Slices of bytes cut and kept: laws of no one function. Own work. -/
namespace Go.Proofs.Ytkagapgganoomaa
open Go.RowKit
theorem Blk.grown {w w' : World} {g : Nat} {t : TypeId} {vs : List Value} (h : Blk w g t vs) {row : Option Nat} (hg : w.grownBy w' row) (hne : some g ≠ row) : Blk w' g t vs := (hg.block g h.lt hne).trans h
theorem only_trans {a b c : World} {row : Option Nat} (h : a.grownBy b row) (k : b.grownBy c row) : a.grownBy c row :=
  ⟨k.os.trans h.os, k.tape.trans h.tape, k.output.trans h.output, Nat.le_trans h.size k.size, fun i hi hne => (k.block i (Nat.lt_of_lt_of_le hi h.size) hne).trans (h.block i hi hne)⟩
theorem only_after {a b c : World} {row : Option Nat} (h : Below a.heap.size a b) (k : b.grownBy c row) : a.grownBy c row := only_trans (grown_of_below h row) k
theorem Rd.drewN {w : World} {v : Value} {l : List Nat} (h : Rd w v l) (n : Nat) : Rd (w.drewN n) v l := h.keep fun _ _ _ => rfl
theorem only_dN {a w : World} {row : Option Nat} (h : a.grownBy w row) (n : Nat) : a.grownBy (w.drewN n) row := ⟨h.os, h.tape, h.output, h.size, h.block⟩
theorem gb_take (l : List Nat) (k j : Nat) (hj : j < k) : gb (l.take k) j = gb l j := by
  unfold gb
  rw [List.getD_eq_getElem?_getD, List.getD_eq_getElem?_getD, List.getElem?_take, if_pos hj]
theorem gb_drop (l : List Nat) (k j : Nat) : gb (l.drop k) j = gb l (k + j) := by
  unfold gb
  rw [List.getD_eq_getElem?_getD, List.getD_eq_getElem?_getD, List.getElem?_drop]
theorem gb_take_byte (l : List Nat) (k : Nat) (h : ∀ j, gb l j < 256) (j : Nat) : gb (l.take k) j < 256 := by
  by_cases hj : j < k
  · rw [gb_take l k j hj]; exact h j
  · unfold gb; rw [List.getD_eq_getElem?_getD, List.getElem?_take, if_neg hj]; show 0 < 256; omega
theorem add_of_add (a : Addr) (i j : Nat) : (a.add i).add j = a.add (i + j) := Addr.add_add a i j
/-- The first k bytes of a slice. -/
theorem Rd.take {w : World} {ao : Option Addr} {n cap : Nat} {l : List Nat} (h : Rd w (.slice ao n cap) l) (k : Nat) (hk : k ≤ l.length) : Rd w (.slice ao k cap) (l.take k) := by
  have e1 : (l.take k).length = k := by rw [List.length_take]; omega
  refine ⟨gb_take_byte l k h.byte, by rw [e1]; have := h.fits; omega, ?_⟩
  rcases h.form with ⟨e, q⟩ | ⟨ad, cap', e, hc, hs⟩
  · subst q
    injection e with e2 e3 e4
    subst e2; subst e4
    obtain rfl : k = 0 := by simpa using hk
    exact .inl ⟨rfl, rfl⟩
  · injection e with e2 e3 e4
    subst e2; subst e4
    refine .inr ⟨ad, cap, by rw [e1], by rw [e1]; omega, fun j hj => ?_⟩
    rw [gb_take l k j (by omega)]
    exact hs j (by omega)
/-- What stands behind the first k bytes. -/
theorem Rd.drop {w : World} {ao : Option Addr} {n cap : Nat} {l : List Nat} (h : Rd w (.slice ao n cap) l) (k : Nat) (hk : k ≤ l.length) : Rd w (.slice (if cap = k then ao else ao.map (·.add k)) (l.length - k) (cap - k)) (l.drop k) := by
  have e1 : (l.drop k).length = l.length - k := List.length_drop
  refine ⟨fun j => by rw [gb_drop]; exact h.byte _, by rw [e1]; have := h.fits; omega, ?_⟩
  rcases h.form with ⟨e, q⟩ | ⟨ad, cap', e, hc, hs⟩
  · subst q
    injection e with e2 e3 e4
    subst e2; subst e4
    obtain rfl : k = 0 := by simpa using hk
    exact .inl ⟨by simp, rfl⟩
  · injection e with e2 e3 e4
    subst e2; subst e4
    by_cases hq : cap = k
    · refine .inr ⟨ad, cap - k, by rw [if_pos hq, e1], by rw [e1]; omega, fun j hj => absurd hj (by omega)⟩
    · refine .inr ⟨ad.add k, cap - k, by rw [if_neg hq, e1]; rfl, by rw [e1]; omega, fun j hj => ?_⟩
      rw [add_of_add, gb_drop]
      exact hs (k + j) (by omega)
theorem owner_len {ao : Option Addr} {n m c d : Nat} : (Value.slice ao n c).ownBlock = (Value.slice ao m d).ownBlock := by cases ao <;> rfl
theorem owner_cut {ao : Option Addr} {n cap k n' c' rb : Nat} (h : (Value.slice ao n cap).ownBlock ≠ some rb) : (Value.slice (if cap = k then ao else ao.map (·.add k)) n' c').ownBlock ≠ some rb := by
  cases ao with
  | none => split <;> simp [Value.ownBlock]
  | some a =>
    split
    · exact h
    · show some (a.add k).block ≠ some rb
      rw [add_block]; exact h
theorem below_dN {B : Nat} {a w : World} (h : Below B a w) (n : Nat) : Below B a (w.drewN n) := ⟨h.os, h.tape, h.output, h.size, h.block⟩
/-- Of the old blocks the one alone has turned. -/
theorem only_set {a w : World} {g : Nat} (h : a.grownBy w (some g)) {p : Addr} (hp : p.block = g ∨ a.heap.size ≤ p.block) (u : Value) : a.grownBy (w.setCell p u) (some g) := by
  refine ⟨h.os, h.tape, h.output, by simpa [World.setCell] using h.size, fun i hi hne => ?_⟩
  rw [Below.heap_setCell w p u i (fun e => by
    rcases hp with q | q
    · exact hne (by rw [← q, ← e])
    · omega)]
  exact h.block i hi hne
theorem Rd.at_ {w : World} {ao : Option Addr} {n cap : Nat} {l : List Nat} (h : Rd w (.slice ao n cap) l) (j : Nat) (hj : j < l.length) : ∃ ad, ao = some ad ∧ w.cell? (ad.add j) = some (.int .u8 ((gb l j : Nat) : Int)) := by
  rcases h.form with ⟨_, q⟩ | ⟨ad, cap', e, _, hs⟩
  · subst q; simp at hj
  · injection e with e2 e3 e4
    exact ⟨ad, e2, hs j hj⟩
theorem own_blk {w : World} {base g n : Nat} {l : List Nat} (h : w.ownsRow base 5 1 (.slice (some ⟨g, 0, none⟩) n n) n (row8 l)) : Blk w g 5 (row8 l) := by
  rcases h.2 with ⟨e, _⟩ | ⟨g', cap, cur, e, _, hh, _, _, hs, ht⟩
  · cases e
  · injection e with e1 e2 e3
    injection e1 with e1
    injection e1 with e1
    subst e1; subst e3
    unfold Blk
    rw [hh, ← ht]
    congr 2
    apply Array.toList_inj.1
    exact (List.take_of_length_le (by rw [Array.length_toList, hs]; exact Nat.le_refl _)).symm
theorem blk_own {w : World} {base g : Nat} {l : List Nat} (h : Blk w g 5 (row8 l)) (hb : base ≤ g) (hl : ∀ k, gb l k < 256) (hf : l.length ≤ 140737488355328) : Own w base (.slice (some ⟨g, 0, none⟩) l.length l.length) l := by
  refine ⟨⟨by rw [row8_len, Nat.mul_one], .inr ⟨g, _, _, rfl, hb, h, Nat.le_refl _, by unfold maxLen; omega, ?_, ?_⟩⟩, hl, hf⟩
  · simp [row8_len]
  · simp [← row8_len l]
theorem infoSize : (Try.prog.info? 5).map (·.size) = some 1 := by kernel_rfl
def vlen : Value → Nat | .slice _ n _ => n | _ => 0
theorem Own.vlen {w : World} {base : Nat} {v : Value} {l : List Nat} (h : Own w base v l) : vlen v = l.length := by
  obtain ⟨ao, cap, rfl, _⟩ := h.rd.shape
  rfl
end Go.Proofs.Ytkagapgganoomaa
/- Numbers laid in bytes, as the document says: contracts. Own work. -/
namespace Go.Proofs.Ytkagapgganoomaa
open Go.RowKit
theorem Own.cell {w : World} {base g cap n : Nat} {l : List Nat} (h : Own w base (.slice (some ⟨g, 0, none⟩) n cap) l) (hl : n = l.length) (j : Nat) (hj : j < l.length) : w.cell? ⟨g, j, none⟩ = some (.int .u8 ((gb l j : Nat) : Int)) := by
  subst hl
  rw [h.1.cellAt j (by omega)]; exact row8_val l j hj
theorem Own.free {w : World} {base g cap n : Nat} {l : List Nat} (h : Own w base (.slice (some ⟨g, 0, none⟩) n cap) l) (hl : n = l.length) (j : Nat) : w.frozen? ⟨g, j, none⟩ = false := by
  subst hl; exact h.1.frozenAt j

theorem own_nil (w : World) : Own w w.heap.size (.slice none 0 0) [] := ⟨World.ownsRow_nil w _ _ _, fun k => by rw [gb_nil]; omega, by simp⟩
/-- n in so many bytes, the highest one first, the last k of them laid. -/
def beK (n size k : Nat) : List Nat := (List.range size).map fun i => if i + k < size then 0 else n / 256 ^ (size - 1 - i) % 256
def be (n size : Nat) : List Nat := (List.range size).map fun i => n / 256 ^ (size - 1 - i) % 256
theorem be_len (n size : Nat) : (be n size).length = size := by simp [be]
theorem beK_len (n size k : Nat) : (beK n size k).length = size := by simp [beK]
theorem gb_map (f : Nat → Nat) (n k : Nat) : gb ((List.range n).map f) k = if k < n then f k else 0 := by
  unfold gb
  rw [List.getD_eq_getElem?_getD, List.getElem?_map]
  by_cases h : k < n
  · rw [List.getElem?_range h, if_pos h]; rfl
  · rw [List.getElem?_eq_none (by simpa using h), if_neg h]; rfl
theorem be_byte (n size k : Nat) : gb (be n size) k < 256 := by
  unfold be; rw [gb_map]; split
  · exact Nat.mod_lt _ (by omega)
  · omega
theorem beK_zero (n size : Nat) : row8 (beK n size 0) = List.replicate size (.int .u8 0) := by
  unfold row8 beK
  apply List.ext_getElem
  · simp
  · intro i h1 h2
    simp at h1
    simp [h1]
theorem beK_byte (n size k j : Nat) : gb (beK n size k) j < 256 := by
  unfold beK; rw [gb_map]; split
  · split
    · omega
    · exact Nat.mod_lt _ (by omega)
  · omega
theorem beK_all (n size : Nat) : beK n size size = be n size := by
  unfold beK be
  apply List.map_congr_left
  intro i _
  rw [if_neg (by omega)]
theorem beK_step (n size j : Nat) (hj : j < size) : (beK n size (size - (j + 1))).set j (n / 256 ^ (size - (j + 1)) % 256) = beK n size (size - j) := by
  apply bytes_ext (n := size) (by rw [List.length_set, beK_len]) (beK_len _ _ _)
  intro k hk
  rw [gb_set _ _ _ _ (by rw [beK_len]; exact hj)]
  unfold beK
  rw [gb_map, gb_map, if_pos hk, if_pos hk]
  by_cases e : j = k
  · subst e
    rw [if_pos rfl, if_neg (by omega)]
    congr 3; omega
  · rw [if_neg e]
    by_cases h2 : k + (size - j) < size
    · rw [if_pos h2, if_pos (by omega)]
    · rw [if_neg h2, if_neg (by omega)]

theorem be_get (n size i : Nat) (h : i < (be n size).length) : (be n size)[i] = n / 256 ^ (size - 1 - i) % 256 := by simp [be]
theorem be_step (n size j : Nat) (hj : j < size) : (be n size).take (size - (j + 1)) ++ [n / 256 ^ j % 256] = (be n size).take (size - j) := by
  have hl : size - (j + 1) < (be n size).length := by rw [be_len]; omega
  rw [show size - j = size - (j + 1) + 1 by omega, List.take_succ_eq_append_getElem hl, be_get]
  congr 3; congr 2; omega
end Go.Proofs.Ytkagapgganoomaa
/- Cells copied and stored into the middle of a block that is known whole. Own work. -/
namespace Go.Proofs.Ytkagapgganoomaa
open Go.RowKit
theorem setCells_mid (b : Nat) (t : TypeId) : ∀ (us : List Value) (o : Nat) (w : World) (vs : List Value), Blk w b t vs → o + us.length ≤ vs.length → Blk (w.setCells b o us) b t (splice vs o us)
  | [], o, w, vs, h, _ => by
    simpa [World.setCells, splice] using h
  | u :: r, o, w, vs, h, hl => by
    have := setCells_mid b t r (o + 1) (w.setCell ⟨b, o, none⟩ u) (vs.set o u) (h.set o u) (by simp at hl ⊢; omega)
    have e := list_seg_step vs o u r (by simp at hl ⊢; omega)
    have e2 : splice (vs.set o u) (o + 1) r = splice vs o (u :: r) := by
      unfold splice
      rw [← List.append_assoc, ← List.append_assoc]
      exact e
    rw [e2] at this
    exact this
theorem only_setRow {a w : World} {g : Nat} (h : a.grownBy w (some g)) (cs : Array Value) : a.grownBy (w.setRow g cs) (some g) := by
  refine ⟨h.os, h.tape, h.output, by simpa [World.setRow] using h.size, fun i hi hne => ?_⟩
  rw [setRow_other w g i cs (fun e => hne (by rw [e]))]
  exact h.block i hi hne
theorem only_setCells {a : World} (b : Nat) : ∀ (vs : List Value) (o : Nat) (w : World), a.grownBy w (some b) → a.grownBy (w.setCells b o vs) (some b)
  | [], _, _, h => h
  | v :: r, o, _, h => only_setCells b r (o + 1) _ (only_set h (.inl rfl) v)
theorem there_part {w : World} {b : Nat} {t : TypeId} {vs : List Value} (h : Blk w b t vs) (o n : Nat) (hn : o + n ≤ vs.length) : w.there b o n := fun j hj => by
  refine ⟨?_, h.free _⟩
  have e : vs[o + j]? = some (vs[o + j]'(by omega)) := List.getElem?_eq_getElem (by omega)
  rw [h.cell (o + j) _ e]; rfl
theorem range_part {w : World} {b : Nat} {t : TypeId} {vs : List Value} (h : Blk w b t vs) (o : Nat) (cs : List Value) (hc : ∀ j v, cs[j]? = some v → vs[o + j]? = some v) : w.rangeAt b o cs := fun j v hv => h.cell (o + j) v (hc j v hv)
/-- copy(dst, src): dst lies at place off of block g. -/
theorem run_copy_blk {w : World} (dT sT ty : TypeId) (hu : Try.prog.underlying dT = some (.slice 5)) (g off dLen dCap : Nat) (t : TypeId) (cur : List Value) (hg : Blk w g t cur) (dp : Option Addr) (y : Value) (m : List Nat) (hy : Rd w y m) (k : Nat) (hk : k = min m.length dLen)
    (hdp : 0 < k → dp = some ⟨g, off, none⟩) (hfit : off + k ≤ cur.length) :
    ∃ w', (Builtin.copy_ #[dT, sT] ty #[.slice dp dLen dCap, y]).run Try.prog w = .ok (.int .i64 (k : Int)) w' ∧ Blk w' g t (splice cur off (row8 (m.take k))) ∧ w.grownBy w' (some g) := by
  obtain ⟨ao, cap, rfl, _⟩ := hy.shape
  have hlen : (row8 (m.take k)).length = k := by rw [row8_len, List.length_take]; omega
  by_cases h0 : k = 0
  · subst h0
    refine ⟨w, ?_, by simpa [splice, row8] using hg, World.grownBy.refl w _⟩
    exact run_copy_none (P := Try.prog) w dT sT ty 5 dp ao dLen dCap m.length cap hu infoSize hk.symm
  · obtain rfl := hdp (by omega)
    obtain ⟨ad, rfl, _⟩ := hy.at_ 0 (by omega)
    have hsrc : ∀ j v, (row8 (m.take k))[j]? = some v → w.cell? (ad.add j) = some v := fun j v hv => by
      by_cases hj : j < k
      · rw [row8_val _ j (by rw [List.length_take]; omega), gb_take _ _ _ hj] at hv
        obtain ⟨ad', e, hc⟩ := hy.at_ j (by omega)
        cases e
        rw [hc, ← hv]
      · rw [List.getElem?_eq_none (by rw [hlen]; omega)] at hv; cases hv
    have hrun := run_copy_row (P := Try.prog) w dT sT ty 5 g off dLen dCap ad m.length cap cur.toArray t (row8 (m.take k)) hu infoSize hg (by rw [hlen]; exact hk) hsrc (by rw [hlen]; simpa using hfit) (row8_one' _)
    rw [hlen] at hrun
    refine ⟨_, hrun, ?_, only_setRow (World.grownBy.refl w _) _⟩
    have := setRow_heap w g cur.toArray ((cur.toArray.toList.take off ++ row8 (m.take k) ++ cur.toArray.toList.drop (off + k)).toArray) t (0, 0) hg
    unfold Blk splice
    rw [this, hlen, List.append_assoc]
theorem wp_copy_blk {o : Oper} {a : Act} {w : World} {K : Act → World → Prop} {Q : Exit → Act → World → Prop} (d s : Operand) (dT sT : TypeId) (ho : o.op = .call { callee := .builtin .copy, args := #[d, s], argTypes := #[dT, sT] }) (hu : Try.prog.underlying dT = some (.slice 5))
    (g off dLen dCap : Nat) (t : TypeId) (cur : List Value) (hg : Blk w g t cur) (dp : Option Addr) (hd : a.eval d = .slice dp dLen dCap) (y : Value) (hs : a.eval s = y) (m : List Nat) (hy : Rd w y m) (k : Nat) (hk : k = min m.length dLen)
    (hdp : 0 < k → dp = some ⟨g, off, none⟩) (hfit : off + k ≤ cur.length)
    (h : ∀ w', Blk w' g t (splice cur off (row8 (m.take k))) → w.grownBy w' (some g) → K (a.put o.dst (.int .i64 (k : Int))) w') : o.wp Try.prog a w K Q := by
  obtain ⟨w', hrun, h2, h3⟩ := run_copy_blk dT sT o.type hu g off dLen dCap t cur hg dp y m hy k hk hdp hfit
  unfold Oper.wp
  simp only [execOp, ho, resolve, invoke, builtin, Sem.run_bind, Sem.run_pure, Result.andThen_ok, List.map_toArray, List.map_cons, List.map_nil, hd, hs, hrun]
  exact h w' h2 h3
theorem wpList_copy_blk {ops : Array Oper} {rest : List Oper} {o : Oper} {a : Act} {w : World} {Q : Exit → Act → World → Prop} (hgd : o.guard = none) (d s : Operand) (dT sT : TypeId) (ho : o.op = .call { callee := .builtin .copy, args := #[d, s], argTypes := #[dT, sT] }) (hu : Try.prog.underlying dT = some (.slice 5))
    (g off dLen dCap : Nat) (t : TypeId) (cur : List Value) (hg : Blk w g t cur) (dp : Option Addr) (hd : a.eval d = .slice dp dLen dCap) (y : Value) (hs : a.eval s = y) (m : List Nat) (hy : Rd w y m) (k : Nat) (hk : k = min m.length dLen)
    (hdp : 0 < k → dp = some ⟨g, off, none⟩) (hfit : off + k ≤ cur.length)
    (h : ∀ w', Blk w' g t (splice cur off (row8 (m.take k))) → w.grownBy w' (some g) → wpList Try.prog ops Q rest (a.put o.dst (.int .i64 (k : Int))) w') : wpList Try.prog ops Q (o :: rest) a w :=
  wpList_plain hgd fun _ hK => wp_copy_blk d s dT sT ho hu g off dLen dCap t cur hg dp hd y hs m hy k hk hdp hfit fun w' h2 h3 => hK _ _ (h w' h2 h3)
theorem splice_all {α : Type} (L cs : List α) (h : cs.length = L.length) : splice L 0 cs = cs := by
  unfold splice
  rw [List.take_zero, List.drop_eq_nil_of_le (by omega)]; simp
/-- Cells by value are stored into a block that is known whole: the world behind it has a name of its own. -/
theorem wpList_store_blk {ops : Array Oper} {rest : List Oper} {op : Oper} {a : Act} {w : World} {Q : Exit → Act → World → Prop} (hgd : op.guard = none) (ty : TypeId) (x y : Operand) (ho : op.op = .store ty x y)
    (b o : Nat) (cs : List Value) (hx : a.eval x = .pointer (some ⟨b, o, none⟩)) (hy : a.eval y = .agg cs.toArray)
    (t : TypeId) (cur : List Value) (hg : Blk w b t cur) (hfit : o + cs.length ≤ cur.length) (hi : (Try.prog.info? ty).map (·.size) = some cs.length) (h1 : cs.toArray.all (·.oneCell') = true)
    (h : ∀ w', Blk w' b t (splice cur o cs) → w.grownBy w' (some b) → wpList Try.prog ops Q rest (a.put op.dst undef) w') : wpList Try.prog ops Q (op :: rest) a w :=
  wpList_store_mid hgd ty x y ho b o cs.toArray hx hy (there_part hg o _ (by simpa using hfit)) (by simpa using hi) h1 (h _ (setCells_mid b t cs o w cur hg hfit) (only_setCells b cs o w (World.grownBy.refl w _)))
end Go.Proofs.Ytkagapgganoomaa
/- An array of bytes by value among a law's arguments: opened and shut. Own work. -/
namespace Go.Proofs.Ytkagapgganoomaa
open Go.ChangeShapes Go.WideShapes Go.ChangeAt Go.RowKit
/-- A law's last step: the results read, the arguments read as before, and below the old heap's size the world is as it was. -/
theorem post_law {H : Type} {enc : TypeId × Value → H} {P : Program} {f : Func} {s : ChangeSpec} {apart fresh handsOn : Bool} {W W' : World} {args : Array Value} {v : Value} {ds gs : List (DataW H)} {before : List MemPlace}
    (hW : DataW.Whole enc P f.params.toList s.vars apart W args.toList ds gs before)
    (hres : DataW.TrodAll enc P W' (match fresh with | true => W.heap.size | false => 0) (fun _ => false) handsOn f.resultTypes.toList (v.resultList f.resultTypes.size) (s.fn H (ds ++ gs)).results [])
    (hargs : DataW.TrodAll enc P W' 0 (fun b => decide (b < W.heap.size)) true f.params.toList args.toList (s.fn H (ds ++ gs)).args before)
    (hvars : DataW.TrodVars enc P W' (fun b => decide (b < W.heap.size)) s.vars (s.fn H (ds ++ gs)).vars [])
    (hb : Below W.heap.size W W') : s.post enc P f apart fresh handsOn false W args v W' :=
  ⟨ds, gs, before, [], before, [], hW, hres, hargs, hvars, World.keptBut_mono (fun _ hp => ⟨hp, Or.inr (Or.inl hp)⟩) (hb.frame (· ∈ before)), (fun h => by cases h)⟩
def lit8 {H : Type} (l : List Nat) : DataW H := .agg (l.map fun k : Nat => .lit (.int .u8 (k : Int)))
theorem u8_of {a : Int} (h : (Lit.int .u8 a).wf = true) : ∃ n : Nat, n < 256 ∧ a = (n : Int) := by
  have k : 0 ≤ a ∧ a ≤ 255 := by simpa [Lit.wf, IntKind.min, IntKind.max, IntKind.signed, IntKind.bits] using h
  exact ⟨a.toNat, by omega, by omega⟩
theorem open_row {H : Type} {enc : TypeId × Value → H} {P : Program} {W : World} {base : Nat} {sp : Nat → Bool} {held : Bool} {t e n : Nat} (hu : P.underlying t = some (.array n e)) (he : P.underlying e = some (.int .u8)) (hc : P.cellsOf e = 1)
    {v : Value} {d : DataW H} {p : List MemPlace} {b0 : Nat} {r : Reach} (hval : Value.okWide P W r b0 t v) (hcn : P.cellsOf t = n) (h : DataW.Trod enc P W base sp held t v d p) :
    ∃ l : List Nat, Bytes n l ∧ v = .agg (row8 l).toArray ∧ d = lit8 l ∧ p = [] := by
  obtain ⟨cs, rfl, hsz, _⟩ : ∃ cs, v = .agg cs ∧ cs.size = P.cellsOf t ∧ Row.okWide P W r b0 t cs := by
    simpa [Value.okWide, hu] using hval
  obtain ⟨fuel, hf⟩ := h
  obtain ⟨xs, m, _, hx, hl, hn, hi⟩ := DataW.trod_array hu hf
  obtain ⟨cs⟩ := cs
  simp only [Value.cells] at hl hi
  have key : ∀ i, i < n → ∃ k : Nat, k < 256 ∧ cs[i]? = some (.int .u8 (k : Int)) ∧ xs[i]? = some (.lit (.int .u8 (k : Int)), []) := fun i hin => by
    have h1 := hi i hin
    have e1 : xs[i]? = some (xs[i]'(by omega)) := List.getElem?_eq_getElem (by omega)
    rw [e1, hc, Nat.mul_one] at h1
    obtain ⟨a, h2, h3, h4⟩ := DataW.trod_int he h1
    obtain ⟨k, hk, rfl⟩ := u8_of h4
    refine ⟨k, hk, ?_, by rw [e1, h3]⟩
    have h5 : ((cs.drop i).take 1)[0]? = some (.int .u8 (k : Int)) := by
      rw [h2]; rfl
    simpa using h5
  have hcl : cs.length = n := by rw [← hcn]; exact hsz
  let l : List Nat := (List.range n).map fun i => (intOf (cs[i]?.getD undef)).toNat
  have hll : l.length = n := by simp [l]
  have hle : ∀ i, i < n → ∃ k : Nat, k < 256 ∧ l[i]? = some k ∧ cs[i]? = some (.int .u8 (k : Int)) ∧ xs[i]? = some (.lit (.int .u8 (k : Int)), []) := fun i hin => by
    obtain ⟨k, h1, h2, h3⟩ := key i hin
    exact ⟨k, h1, by simp [l, hin, h2, intOf], h2, h3⟩
  refine ⟨l, ⟨hll, fun k => ?_⟩, ?_, ?_, ?_⟩
  · unfold gb; rw [List.getD_eq_getElem?_getD]
    by_cases hk : k < n
    · obtain ⟨q, h1, h2, _⟩ := hle k hk; rw [h2]; exact h1
    · rw [List.getElem?_eq_none (by omega)]; show 0 < 256; omega
  · congr 1; congr 1
    apply List.ext_getElem?
    intro i
    unfold row8; rw [List.getElem?_map]
    by_cases hk : i < n
    · obtain ⟨q, _, h2, h3, _⟩ := hle i hk; rw [h2, h3]; rfl
    · rw [List.getElem?_eq_none (by omega), List.getElem?_eq_none (by omega)]; rfl
  · have e2 := congrArg Prod.fst hx
    simp only at e2
    rw [e2]; unfold lit8; congr 1
    apply List.ext_getElem?
    intro i
    rw [List.getElem?_map, List.getElem?_map]
    by_cases hk : i < n
    · obtain ⟨q, _, h2, _, h4⟩ := hle i hk; rw [h2, h4]; rfl
    · rw [List.getElem?_eq_none (by omega), List.getElem?_eq_none (by omega)]; rfl
  · have e2 := congrArg Prod.snd hx
    simp only at e2
    rw [e2]
    rw [List.flatMap_eq_nil_iff]
    intro x hxm
    obtain ⟨i, hi2, e3⟩ := List.getElem_of_mem hxm
    obtain ⟨q, _, _, _, h4⟩ := hle i (by omega)
    rw [List.getElem?_eq_getElem hi2, e3] at h4
    cases h4; rfl
theorem shut_row {H : Type} {enc : TypeId × Value → H} {P : Program} {W : World} {base : Nat} {sp : Nat → Bool} {held : Bool} {t e n : Nat} (hu : P.underlying t = some (.array n e)) (he : P.underlying e = some (.int .u8)) (hc : P.cellsOf e = 1) (hcn : P.cellsOf t = n)
    {l : List Nat} (hl : Bytes n l) : DataW.Trod enc P W base sp held t (.agg (row8 l).toArray) (lit8 l) [] := by
  refine ⟨2, ?_⟩
  have hlen : (row8 l).length = n := by rw [row8_len]; exact hl.1
  have hm : ((List.range n).mapM fun i => DataW.trod enc P W base sp held 1 e (((row8 l).drop (i * P.cellsOf e)).take (P.cellsOf e))) = some ((List.range n).map fun i => (.lit (.int .u8 ((gb l i : Nat) : Int)), [])) := by
    refine mapM_some_of_get _ _ (by simp) fun i x hx => ?_
    have hin : i < n := by
      rcases Nat.lt_or_ge i n with h | h
      · exact h
      · rw [List.getElem?_eq_none (by simpa using h)] at hx; cases hx
    have hxe : x = i := by simp [hin] at hx; omega
    subst hxe
    rw [hc, Nat.mul_one, List.getElem?_map, List.getElem?_range hin]
    have h1 : ((row8 l).drop x).take 1 = [.int .u8 ((gb l x : Nat) : Int)] := by
      rw [List.drop_eq_getElem_cons (by omega), List.take_succ_cons, List.take_zero]
      have := row8_val l x (by rw [← row8_len]; omega)
      rw [List.getElem?_eq_getElem (by omega)] at this
      simp at this; rw [this]
    have hw : (Lit.int .u8 ((gb l x : Nat) : Int)).wf = true := by
      have := hl.2 x
      simp [Lit.wf, IntKind.min, IntKind.max, IntKind.signed, IntKind.bits]; omega
    rw [h1]
    simp [DataW.trod, he, hw]
  have hd : ((List.range n).map fun i => (DataW.lit (H := H) (.int .u8 ((gb l i : Nat) : Int)))) = l.map fun k : Nat => .lit (.int .u8 (k : Int)) := by
    apply List.ext_getElem?
    intro i
    rw [List.getElem?_map, List.getElem?_map]
    by_cases hk : i < n
    · have e : l[i]? = some (gb l i) := by
        unfold gb; rw [List.getD_eq_getElem?_getD, List.getElem?_eq_getElem (by rw [hl.1]; exact hk)]; rfl
      rw [List.getElem?_range hk, e]; rfl
    · rw [List.getElem?_eq_none (by simpa using hk), List.getElem?_eq_none (by rw [hl.1]; omega)]; rfl
  unfold DataW.trod
  simp only [Value.cells, hu]
  rw [if_pos (by simp [hlen, hcn])]
  rw [hm]
  simp only [Option.map_some, List.map_map, Function.comp_def]
  rw [hd]
  unfold lit8
  simp
end Go.Proofs.Ytkagapgganoomaa
/- Slices of bytes among a law's arguments. Own work. -/
namespace Go.Proofs.Ytkagapgganoomaa
open Go.ChangeShapes Go.WideShapes Go.ChangeAt Go.RowKit
theorem cellsB : Try.prog.cellsOf 5 = 1 := by kernel_rfl
theorem bytesB : Try.prog.bytesOf 5 = 1 := by kernel_rfl
theorem laidOut : laidOutB Try.prog = true := by kernel_rfl
set_option maxRecDepth 100000 in
theorem open_bytes {H : Type} {enc : TypeId × Value → H} {W : World} {base b0 : Nat} {r : Reach} {v : Value} {d : DataW H} {p : List MemPlace}
    (hval : Value.okWide Try.prog W r b0 33 v) (h : DataW.Trod enc Try.prog W base (fun _ => true) true 33 v d p)
    (hs : ∀ elems spare, d = .slice elems spare → (elems.length + spare.length) * Try.prog.bytesOf 5 ≤ reachBytes) : ∃ l, Rd W v l := by
  obtain ⟨a0, len, cap, rfl⟩ := okWide_slice Try.underlying33 hval
  obtain ⟨fuel, hf⟩ := h
  rcases open_ints Try.underlying33 Try.underlying5 cellsB hf with ⟨hcs, _⟩ | ⟨a, len', cap', zs, hcs, _, hl, _, hz, hx, hcell, hwz⟩
  · simp [Value.cells] at hcs
    obtain ⟨rfl, rfl, rfl⟩ := hcs
    exact ⟨[], Rd.none_ W⟩
  · simp [Value.cells] at hcs
    obtain ⟨rfl, rfl, rfl⟩ := hcs
    simp only [Prod.mk.injEq] at hx
    obtain ⟨rfl, _⟩ := hx
    simp only [if_true] at hz
    have hfit := hs _ _ rfl
    rw [bytesB] at hfit
    simp only [lits, List.length_map, List.length_take, List.length_drop, reachBytes] at hfit
    have hlen : ((zs.take len).map Int.toNat).length = len := by rw [List.length_map, List.length_take]; omega
    have hnum : ∀ k, k < len → ∃ n : Nat, n < 256 ∧ zs.getD k 0 = (n : Int) ∧ gb ((zs.take len).map Int.toNat) k = n := fun k hk => by
      have hkz : k < zs.length := by omega
      obtain ⟨n, hn, e⟩ := u8_of (hwz zs[k] (List.getElem_mem hkz))
      refine ⟨n, hn, by rw [List.getD_eq_getElem?_getD, List.getElem?_eq_getElem hkz]; exact e, ?_⟩
      unfold gb
      rw [List.getD_eq_getElem?_getD, List.getElem?_map, List.getElem?_take, if_pos hk, List.getElem?_eq_getElem hkz, e]
      rfl
    refine ⟨(zs.take len).map Int.toNat, fun k => ?_, by rw [hlen]; omega, .inr ⟨a, cap, by rw [hlen], by rw [hlen]; exact hl, fun j hj => ?_⟩⟩
    · by_cases hk : k < len
      · obtain ⟨n, hn, _, e⟩ := hnum k hk
        rw [e]; exact hn
      · unfold gb
        rw [List.getD_eq_getElem?_getD, List.getElem?_eq_none (by rw [hlen]; omega)]
        show 0 < 256; omega
    · obtain ⟨n, _, e, e2⟩ := hnum j (by omega)
      rw [e2, hcell j (by omega), e]
end Go.Proofs.Ytkagapgganoomaa
/- Two rows of bytes are compared: '==' on arrays of bytes. Own work over the library's law on bytes. -/
namespace Go.Proofs.Ytkagapgganoomaa
open Go.ChangeShapes Go.WideShapes Go.ChangeAt Go.RowKit
theorem gb_of_mem {l : List Nat} (h : ∀ k, gb l k < 256) : ∀ n ∈ l, n < 256 := fun n hn => by
  obtain ⟨i, hi, e⟩ := List.getElem_of_mem hn
  have := h i
  unfold gb at this
  rw [List.getD_eq_getElem?_getD, List.getElem?_eq_getElem hi] at this
  simpa [e] using this
theorem row8_cells {l : List Nat} (h : ∀ n ∈ l, n < 256) : row8 l = (l.map UInt8.ofNat).map Extern.Stop.cell := by
  unfold row8; rw [List.map_map]
  apply List.map_congr_left
  intro n hn
  have := h n hn
  simp [Extern.Stop.cell, Nat.mod_eq_of_lt this]
theorem map_ofNat_inj : ∀ (x y : List Nat), (∀ n ∈ x, n < 256) → (∀ n ∈ y, n < 256) → x.map UInt8.ofNat = y.map UInt8.ofNat → x = y
  | [], [], _, _, _ => rfl
  | [], _ :: _, _, _, h => by simp at h
  | _ :: _, [], _, _, h => by simp at h
  | a :: x, b :: y, hx, hy, h => by
    simp only [List.map_cons, List.cons.injEq] at h
    have e : a = b := by
      have := congrArg UInt8.toNat h.1
      simp at this
      have := hx a (by simp); have := hy b (by simp)
      omega
    rw [e, map_ofNat_inj x y (fun n hn => hx n (by simp [hn])) (fun n hn => hy n (by simp [hn])) h.2]
theorem run_eql_row {P : Program} (t e : TypeId) (n : Nat) (ht : P.underlying t = some (.array n e)) (he : P.underlying e = some (.int .u8)) (hsz : ∀ w, (sizeOf e).run P w = .ok 1 w)
    (x y : List Nat) (hx : Bytes n x) (hy : Bytes n y) (w : World) :
    (binOp .eql t (.agg (row8 x).toArray) (.agg (row8 y).toArray)).run P w = .ok (.bool (decide (x = y))) w := by
  have mx := gb_of_mem hx.2
  have my := gb_of_mem hy.2
  rw [row8_cells mx, row8_cells my, run_eql_bytes w t e n ht he hsz _ _ (by rw [List.length_map]; exact hx.1) (by rw [List.length_map]; exact hy.1)]
  congr 2
  by_cases h : x = y
  · subst h; simp
  · have : ¬ x.map UInt8.ofNat = y.map UInt8.ofNat := fun e => h (map_ofNat_inj x y mx my e)
    simp [h, this]
end Go.Proofs.Ytkagapgganoomaa
/- Bytes and the strings of them; strings compared. Own work. -/
namespace Go.Proofs.Ytkagapgganoomaa
open Go.ChangeShapes Go.WideShapes Go.ChangeAt Go.RowKit
theorem sb_bstr (l : List Nat) (hl : ∀ k, gb l k < 256) : sb (bstr l) = l := by
  unfold sb bstr strOfNums
  apply List.ext_getElem
  · simp
  · intro i h1 h2
    have := hl i
    unfold gb at this
    rw [List.getD_eq_getElem?_getD, List.getElem?_eq_getElem h2] at this
    simp at this ⊢
    omega
theorem bstr_iff {l m : List Nat} (hl : ∀ k, gb l k < 256) (hm : ∀ k, gb m k < 256) : bstr l = bstr m ↔ l = m := by
  refine ⟨fun h => ?_, fun h => by rw [h]⟩
  rw [← sb_bstr l hl, ← sb_bstr m hm, h]
theorem run_eql_str (s t : ByteArray) (w : World) : (binOp .eql 9 (.string s) (.string t)).run Try.prog w = .ok (.bool (decide (s = t))) w := by
  by_cases h : s = t
  · subst h; go_simp
  · go_simp; intro e; rw [ByteArray.toList_eq, ByteArray.toList_eq] at e; exact h (by cases s; cases t; congr 1; exact Array.toList_inj.1 e)
theorem run_eql_bool (a b : Bool) (w : World) : (binOp .eql 4 (.bool a) (.bool b)).run Try.prog w = .ok (.bool (decide (a = b))) w := by
  cases a <;> cases b <;> go_simp <;> rfl
end Go.Proofs.Ytkagapgganoomaa
/- An array of integers by value among a law's arguments: opened and shut. Own work. -/
namespace Go.Proofs.Ytkagapgganoomaa
open Go.ChangeShapes Go.WideShapes Go.ChangeAt Go.RowKit
/-- So many integers of a kind. -/
def IntRow (k : IntKind) (n : Nat) (l : List Int) : Prop := l.length = n ∧ ∀ x ∈ l, (Lit.int k x).wf = true
def rowI (k : IntKind) (l : List Int) : List Value := l.map (Value.int k)
def litI {H : Type} (k : IntKind) (l : List Int) : DataW H := .agg (l.map fun x => .lit (.int k x))
theorem open_arr {H : Type} {enc : TypeId × Value → H} {P : Program} {W : World} {base : Nat} {sp : Nat → Bool} {held : Bool} {t e n : Nat} {k : IntKind} (hu : P.underlying t = some (.array n e)) (he : P.underlying e = some (.int k)) (hc : P.cellsOf e = 1)
    {v : Value} {d : DataW H} {p : List MemPlace} {b0 : Nat} {r : Reach} (hval : Value.okWide P W r b0 t v) (hcn : P.cellsOf t = n) (h : DataW.Trod enc P W base sp held t v d p) :
    ∃ l : List Int, IntRow k n l ∧ v = .agg (rowI k l).toArray ∧ d = litI k l ∧ p = [] := by
  obtain ⟨cs, rfl, hsz, _⟩ : ∃ cs, v = .agg cs ∧ cs.size = P.cellsOf t ∧ Row.okWide P W r b0 t cs := by
    simpa [Value.okWide, hu] using hval
  obtain ⟨fuel, hf⟩ := h
  obtain ⟨xs, m, _, hx, hl, hn, hi⟩ := DataW.trod_array hu hf
  obtain ⟨cs⟩ := cs
  simp only [Value.cells] at hl hi
  have key : ∀ i, i < n → ∃ a : Int, (Lit.int k a).wf = true ∧ cs[i]? = some (.int k a) ∧ xs[i]? = some (.lit (.int k a), []) := fun i hin => by
    have h1 := hi i hin
    have e1 : xs[i]? = some (xs[i]'(by omega)) := List.getElem?_eq_getElem (by omega)
    rw [e1, hc, Nat.mul_one] at h1
    obtain ⟨a, h2, h3, h4⟩ := DataW.trod_int he h1
    refine ⟨a, h4, ?_, by rw [e1, h3]⟩
    have h5 : ((cs.drop i).take 1)[0]? = some (.int k a) := by
      rw [h2]; rfl
    simpa using h5
  have hcl : cs.length = n := by rw [← hcn]; exact hsz
  let l : List Int := (List.range n).map fun i => intOf (cs[i]?.getD undef)
  have hll : l.length = n := by simp [l]
  have hle : ∀ i, i < n → ∃ a : Int, (Lit.int k a).wf = true ∧ l[i]? = some a ∧ cs[i]? = some (.int k a) ∧ xs[i]? = some (.lit (.int k a), []) := fun i hin => by
    obtain ⟨a, h1, h2, h3⟩ := key i hin
    exact ⟨a, h1, by simp [l, hin, h2, intOf], h2, h3⟩
  refine ⟨l, ⟨hll, fun x hx => ?_⟩, ?_, ?_, ?_⟩
  · obtain ⟨i, hi2, e3⟩ := List.getElem_of_mem hx
    obtain ⟨a, h1, h2, _⟩ := hle i (by omega)
    rw [List.getElem?_eq_getElem hi2, e3] at h2
    rw [Option.some.inj h2]; exact h1
  · congr 1; congr 1
    apply List.ext_getElem?
    intro i
    unfold rowI; rw [List.getElem?_map]
    by_cases hk : i < n
    · obtain ⟨a, _, h2, h3, _⟩ := hle i hk; rw [h2, h3]; rfl
    · rw [List.getElem?_eq_none (by omega), List.getElem?_eq_none (by omega)]; rfl
  · have e2 := congrArg Prod.fst hx
    simp only at e2
    rw [e2]; unfold litI; congr 1
    apply List.ext_getElem?
    intro i
    rw [List.getElem?_map, List.getElem?_map]
    by_cases hk : i < n
    · obtain ⟨a, _, h2, _, h4⟩ := hle i hk; rw [h2, h4]; rfl
    · rw [List.getElem?_eq_none (by omega), List.getElem?_eq_none (by omega)]; rfl
  · have e2 := congrArg Prod.snd hx
    simp only at e2
    rw [e2]
    rw [List.flatMap_eq_nil_iff]
    intro x hxm
    obtain ⟨i, hi2, e3⟩ := List.getElem_of_mem hxm
    obtain ⟨a, _, _, _, h4⟩ := hle i (by omega)
    rw [List.getElem?_eq_getElem hi2, e3] at h4
    cases h4; rfl
theorem shut_arr {H : Type} {enc : TypeId × Value → H} {P : Program} {W : World} {base : Nat} {sp : Nat → Bool} {held : Bool} {t e n : Nat} {k : IntKind} (hu : P.underlying t = some (.array n e)) (he : P.underlying e = some (.int k)) (hc : P.cellsOf e = 1) (hcn : P.cellsOf t = n)
    {l : List Int} (hl : IntRow k n l) : DataW.Trod enc P W base sp held t (.agg (rowI k l).toArray) (litI k l) [] := by
  refine ⟨2, ?_⟩
  have hlen : (rowI k l).length = n := by unfold rowI; rw [List.length_map]; exact hl.1
  have hm : ((List.range n).mapM fun i => DataW.trod enc P W base sp held 1 e (((rowI k l).drop (i * P.cellsOf e)).take (P.cellsOf e))) = some ((List.range n).map fun i => (.lit (.int k (l.getD i 0)), [])) := by
    refine mapM_some_of_get _ _ (by simp) fun i x hx => ?_
    have hin : i < n := by
      rcases Nat.lt_or_ge i n with h | h
      · exact h
      · rw [List.getElem?_eq_none (by simpa using h)] at hx; cases hx
    have hxe : x = i := by simp [hin] at hx; omega
    subst hxe
    rw [hc, Nat.mul_one, List.getElem?_map, List.getElem?_range hin]
    have hxl : x < l.length := by rw [hl.1]; exact hin
    have e0 : l.getD x 0 = l[x] := by rw [List.getD_eq_getElem?_getD, List.getElem?_eq_getElem hxl]; rfl
    have h1 : ((rowI k l).drop x).take 1 = [.int k (l.getD x 0)] := by
      rw [List.drop_eq_getElem_cons (by omega), List.take_succ_cons, List.take_zero, e0]
      unfold rowI
      rw [List.getElem_map]
    have hw : (Lit.int k (l.getD x 0)).wf = true := by rw [e0]; exact hl.2 _ (List.getElem_mem hxl)
    rw [h1, e0]
    rw [e0] at hw
    simp [DataW.trod, he, hw]
    rw [List.getElem?_eq_getElem hxl]; rfl
  have hd : ((List.range n).map fun i => (DataW.lit (H := H) (.int k (l.getD i 0)))) = l.map fun x => .lit (.int k x) := by
    apply List.ext_getElem?
    intro i
    rw [List.getElem?_map, List.getElem?_map]
    by_cases hk : i < n
    · have e : l[i]? = some (l.getD i 0) := by
        rw [List.getD_eq_getElem?_getD, List.getElem?_eq_getElem (by rw [hl.1]; exact hk)]; rfl
      rw [List.getElem?_range hk, e]; rfl
    · rw [List.getElem?_eq_none (by simpa using hk), List.getElem?_eq_none (by rw [hl.1]; omega)]; rfl
  unfold DataW.trod
  simp only [Value.cells, hu]
  rw [if_pos (by simp [hlen, hcn])]
  rw [hm]
  simp only [Option.map_some, List.map_map, Function.comp_def]
  rw [hd]
  unfold litI
  simp
theorem IntRow.two {k : IntKind} {l : List Int} (h : IntRow k 2 l) : ∃ a b : Int, l = [a, b] ∧ (Lit.int k a).wf = true ∧ (Lit.int k b).wf = true := by
  obtain ⟨h1, h2⟩ := h
  match l, h1 with
  | [a, b], _ => exact ⟨a, b, rfl, h2 a (by simp), h2 b (by simp)⟩
end Go.Proofs.Ytkagapgganoomaa
/- Slices of slices of bytes. Own work. -/
namespace Go.Proofs.Ytkagapgganoomaa
open Go.ChangeShapes Go.WideShapes Go.ChangeAt Go.RowKit
/-- The slice v holds slices that hold these bytes. -/
structure Rds (w : World) (v : Value) (ls : List (List Nat)) : Prop where
  fits : ls.length ≤ 140737488355328
  form : (v = .slice none 0 0 ∧ ls = []) ∨ ∃ ad cap, v = .slice (some ad) ls.length cap ∧ ls.length ≤ cap ∧ ∀ j l, ls[j]? = some l → ∃ x, w.cell? (ad.add j) = some x ∧ Rd w x l
theorem Rds.shape {w : World} {v : Value} {ls : List (List Nat)} (h : Rds w v ls) : ∃ ao cap, v = .slice ao ls.length cap ∧ ls.length ≤ cap := by
  rcases h.form with ⟨e, q⟩ | ⟨ad, cap, e, hc, _⟩
  · subst q; exact ⟨none, 0, e, Nat.le_refl _⟩
  · exact ⟨some ad, cap, e, hc⟩
theorem cell_below {w w' : World} {a : Addr} {v : Value} (h : w.cell? a = some v) (hb : Below w.heap.size w w') : w'.cell? a = some v := by
  rw [World.cell?_of_block (w := w) (hb.block _ (World.block_lt_of_cell? w _ h))]; exact h
theorem Rds.below {w w' : World} {v : Value} {ls : List (List Nat)} (h : Rds w v ls) (hb : Below w.heap.size w w') : Rds w' v ls := by
  refine ⟨h.fits, ?_⟩
  rcases h.form with q | ⟨ad, cap, e, hc, hs⟩
  · exact .inl q
  · refine .inr ⟨ad, cap, e, hc, fun j l hj => ?_⟩
    obtain ⟨x, h1, h2⟩ := hs j l hj
    exact ⟨x, cell_below h1 hb, h2.below hb⟩
theorem Rds.at_ {w : World} {ao : Option Addr} {n cap : Nat} {ls : List (List Nat)} (h : Rds w (.slice ao n cap) ls) (j : Nat) (hj : j < ls.length) : ∃ ad x, ao = some ad ∧ w.cell? (ad.add j) = some x ∧ Rd w x ls[j] := by
  rcases h.form with ⟨_, q⟩ | ⟨ad, cap', e, _, hs⟩
  · subst q; simp at hj
  · injection e with e2 e3 e4
    obtain ⟨x, h1, h2⟩ := hs j ls[j] (List.getElem?_eq_getElem hj)
    exact ⟨ad, x, e2, h1, h2⟩
/-- What reads as some bytes stands in a block that is there. -/
theorem Rd.old {w : World} {v : Value} {l : List Nat} (h : Rd w v l) (hl : 0 < l.length) (g : Nat) (hg : w.heap.size ≤ g) : v.ownBlock ≠ some g := by
  rcases h.form with ⟨_, q⟩ | ⟨ad, cap, e, _, hs⟩
  · subst q; simp at hl
  · have := World.block_lt_of_cell? w _ (hs 0 hl)
    rw [add_block] at this
    subst e
    intro q
    have : ad.block = g := Option.some.inj q
    omega
theorem flat_take (ls : List (List Nat)) (k : Nat) (hk : k < ls.length) : (ls.take k).flatten ++ ls[k] = (ls.take (k + 1)).flatten := by
  rw [List.take_succ_eq_append_getElem hk, List.flatten_append]; simp
theorem flat_le (ls : List (List Nat)) (k : Nat) : (ls.take k).flatten.length ≤ ls.flatten.length := by
  have h := congrArg List.length (List.flatten_append (L₁ := ls.take k) (L₂ := ls.drop k))
  rw [List.take_append_drop, List.length_append] at h
  omega
end Go.Proofs.Ytkagapgganoomaa
