/- Texts of one subject in one file: DevPL, DevPN, DevPInv. Own work. -/
import Derived.Test.YtipdcocliefppaaDevGC
import Derived.Test.YtipdcocliefppaaRng
import Derived.RangeFuncBound
import Derived.RangeFuncLeaves
import Derived.Shelf.Abstract
import Derived.Shelf.RegionOpen
import Derived.OwnWalkIn
import Derived.TacticsInMore
import Derived.LoopNIn
import Derived.LoopIn
/- The function that yields the sectors that bytes touch: contract. Own work. -/
namespace Go.Proofs.Ytipdcocliefppaa
open Go.ChangeShapes Go.WideShapes Go.ChangeAt Go.RowKit
open DM
attribute [local go_sem] Oper.semAt_some
/-- A sector that begins within L bytes. -/
abbrev Sec (L : Nat) := { q : Nat // q * 512 < L }
abbrev encS {L : Nat} (x : Sec L) : Array Value := #[.int .i64 (x.1 : Int)]
/-- Where the j-th round begins. -/
def nx (a j : Nat) : Nat := if j = 0 then a else (a / 512 + j) * 512
theorem nx_div (a j : Nat) : nx a j / 512 = a / 512 + j := by unfold nx; split <;> omega
theorem nx_lt (a n j : Nat) (hj : j ≤ many a n) : nx a j < a + n ↔ j < many a n := by
  unfold nx many at *
  split <;> split at hj <;> split <;> omega
theorem ptouched_any (a n : Nat) (w : World) : Calls Try.prog 51 #[.int .i64 (a : Int), .int .i64 (n : Int)] w fun e w' =>
    ∃ ba bn, ba = w.heap.size ∧ bn = w.heap.size + 1 ∧ e = .returned (.func (.func 52) #[] #[.pointer (some ⟨ba, 0, none⟩), .pointer (some ⟨bn, 0, none⟩)]) ∧ Blk w' ba 3 [.int .i64 (a : Int)] ∧ Blk w' bn 3 [.int .i64 (n : Int)] ∧ Below w.heap.size w w' ∧ w'.heap.size = w.heap.size + 2 := by
  go_enter Try.func51, Try.ntmps51
  go_wp2_with fail
  go_ret
  exact ⟨_, _, rfl, rfl, by simp, (Blk.new w _ [.int .i64 (a : Int)] _ rfl).alloc _, Blk.new _ _ [.int .i64 (n : Int)] _ (by simp), ((Below.refl _ w).alloc (Nat.le_refl _) _).alloc (by simp) _, by simp⟩
set_option maxRecDepth 100000 in
set_option maxHeartbeats 2000000 in
theorem ptouch_iter (L ba bn a n : Nat) (ha : a ≤ 16777216) (hn : n ≤ 16777216) (hL : a + n ≤ L) (l : Nat) (J Jx : List (Sec L) → World → Prop) (W : World)
    (hJI : ∀ pre A, J pre A → Blk A ba 3 [.int .i64 (a : Int)] ∧ Blk A bn 3 [.int .i64 (n : Int)])
    (hY : ∀ pre x A, x.1 = a / 512 + pre.length ∧ pre.length < many a n → J pre A → YieldAt Fence.wide 0 Try.prog l (encS x) A fun e A' => (e = .returned (.bool true) ∧ J (pre ++ [x]) A') ∨ (e = .returned (.bool false) ∧ Jx (pre ++ [x]) A')) (h0 : J [] W) :
    CallsIn Fence.wide 0 Try.prog 52 #[.func (.yield l) #[] #[], .pointer (some ⟨ba, 0, none⟩), .pointer (some ⟨bn, 0, none⟩)] W fun e W' => (∃ v, e = .returned v) ∧ ((∃ xs : List (Sec L), xs.map (·.1) = (List.range (many a n)).map (a / 512 + ·) ∧ J xs W') ∨ ∃ pre, Jx pre W') := by
  have HJI := Lib.hid hJI
  have HY := Lib.hid hY
  have H0 := Lib.hid h0
  clear hJI hY h0
  have c1 := (HJI.out _ _ H0.out).1.cell 0 _ rfl
  have hfw : ∀ f, Fence.wide.fn f = True := fun _ => rfl
  have hdw : Fence.wide.depth = none := rfl
  refine callsIn_of_wp Try.func52 rfl trivial ?_ rfl
  simp only [Try.ntmps52, List.size_toArray, List.length_cons, List.length_nil, Nat.reduceAdd, Nat.reduceSub, Array.replicate_succ, Array.replicate_zero, List.push_toArray, List.append_toArray, List.nil_append, List.cons_append]
  gi_wp2
  gi_loopw [4] (fun p wr => ∃ pre : List (Sec L), p = .int .i64 ((nx a pre.length : Nat) : Int) ∧ pre.map (·.1) = (List.range pre.length).map (a / 512 + ·) ∧ pre.length ≤ many a n ∧ J pre wr) (fun p _ => a + n - (intOf p).toNat)
  case atStart => exact ⟨[], rfl, rfl, Nat.zero_le _, H0.out⟩
  case round =>
    obtain ⟨pre, rfl, hp, hle, hj⟩ := hrel
    obtain ⟨hba, hbn⟩ := HJI.out _ _ hj
    have ca := hba.cell 0 _ rfl
    have cn := hbn.cell 0 _ rfl
    have HLT := Lib.hid (nx_lt a n pre.length hle)
    have HDV := Lib.hid (nx_div a pre.length)
    have HP := Lib.hid hp
    have HJ := Lib.hid hj
    have HLE := Lib.hid hle
    have hw1 : IntKind.i64.wrap ((a : Int) + (n : Int)) = (a : Int) + (n : Int) := by rw [IntKind.wrap_i64]; omega
    clear hp hj hle hba hbn
    obtain ⟨p, hpd⟩ : ∃ p, p = nx a pre.length := ⟨_, rfl⟩
    have HPD := Lib.hid hpd
    rw [← hpd] at HLT HDV ⊢
    clear hpd
    by_cases hlt : pre.length < many a n
    · have hc := HLT.out.2 hlt
      have hcz : (p : Int) < (a : Int) + (n : Int) := by omega
      have hsec := (many_pos hlt).2
      obtain ⟨q, hq⟩ : ∃ q, q = a / 512 + pre.length := ⟨_, rfl⟩
      rw [← hq] at HDV hsec
      have hq2 : (p : Int) / 512 = (q : Int) := by have := HDV.out; omega
      have hqb : q ≤ 65536 := by omega
      obtain ⟨y, hyq⟩ : ∃ y : Sec L, y.1 = q := ⟨⟨q, by omega⟩, rfl⟩
      obtain ⟨fn, tmps, assign, body, hy, hR⟩ := HY.out pre y wr ⟨by rw [hyq]; exact hq, hlt⟩ HJ.out
      dsimp only [encS] at hy
      rw [hyq] at hy
      have HYQ := Lib.hid hyq
      clear hyq
      have HQ := Lib.hid hq
      have HLT2 := Lib.hid hlt
      have HSEC := Lib.hid hsec
      clear hlt hq hsec
      gi_wp2
      refine hR.mono ?_
      rintro e w6 (⟨rfl, hj⟩ | ⟨rfl, hj⟩)
      · have HJ6 := Lib.hid hj
        clear hj hy hR
        gi_wp2
        go_roundw
        case rel =>
          refine ⟨pre ++ [y], ?_, ?_, by rw [List.length_append]; exact HLT2.out, HJ6.out⟩
          · rw [List.length_append, List.length_singleton, show nx a (pre.length + 1) = (q + 1) * 512 by unfold nx; rw [if_neg (by omega)]; have := HQ.out; omega]
            go_num
          · rw [List.map_append, List.length_append, HP.out, List.length_singleton, List.range_succ, List.map_append]
            show _ ++ [y.1] = _ ++ [a / 512 + pre.length]
            rw [HYQ.out, HQ.out]
        case measure =>
          have := HDV.out
          simp [intOf]
          omega
      · have HJ6 := Lib.hid hj
        clear hj hy hR
        gi_wp2
        exact bodyPost_ret (results_none rfl _ _ _) rfl ⟨⟨_, rfl⟩, .inr ⟨_, HJ6.out⟩⟩
    · have hc : ¬ p < a + n := fun q => hlt (HLT.out.1 q)
      have hcz : ¬ ((p : Int) < (a : Int) + (n : Int)) := by omega
      have HE := Lib.hid (show pre.length = many a n by have := HLE.out; omega)
      clear hlt
      gi_wp2
      exact bodyPost_end (results_none rfl _ _ _) rfl ⟨⟨_, rfl⟩, .inl ⟨pre, HP.out.trans (by rw [HE.out]), HJ.out⟩⟩
end Go.Proofs.Ytipdcocliefppaa
/- A loose write in memory: made, copied into, appended; what lasts while a range over a function does its own book-keeping. Own work. -/
namespace Go.Proofs.Ytipdcocliefppaa
open Go.ChangeShapes Go.WideShapes Go.ChangeAt Go.RowKit
open DM
theorem built_write (q : Int) : Try.prog.built 70 [(0, .int .i64 q)] = some (.int .i64 q :: .int .i64 0 :: row8 (List.replicate 512 0)).toArray := by kernel_rfl
theorem zeroW (w : World) : (zeroValue 70).run Try.prog w = .ok (.agg zlw.toArray) w := by kernel_rfl
/-- The sector q of what is seen, as a loose write has it. -/
def secW (X : List Nat) (q : Nat) : LW := ⟨q * 512, (X.take (min (q * 512 + 512) X.length)).drop (q * 512), min (q * 512 + 512) X.length⟩
theorem sector_secW (X : List Nat) (a j : Nat) : sector X a j = secW X (a / 512 + j) := rfl
theorem secW_bytes (X : List Nat) (q : Nat) (hq : q * 512 < X.length) : (secW X q).bytes = (X.drop (q * 512)).take (min (X.length - q * 512) 512) ∧ (secW X q).bytes.length = min (X.length - q * 512) 512 := by
  have e : (secW X q).bytes = (X.drop (q * 512)).take (min (X.length - q * 512) 512) := by
    show (X.take (min (q * 512 + 512) X.length)).drop (q * 512) = _
    rw [List.drop_take]
    congr 1
    omega
  refine ⟨e, ?_⟩
  rw [e, List.length_take, List.length_drop]; omega
theorem secW_wr (X : List Nat) (q : Nat) (hq : q * 512 < X.length) : Wr (secW X q) ∧ (secW X q).size ≤ X.length := by
  have h := (secW_bytes X q hq).2
  refine ⟨⟨?_, by omega, by omega, ?_⟩, Nat.min_le_right _ _⟩
  · show q * 512 % 512 = 0; omega
  · show min (q * 512 + 512) X.length = q * 512 + _; omega
/-- What a loose write's cells are once its bytes are copied, and how many is laid. -/
theorem secW_cells (X : List Nat) (q k : Nat) (hq : q * 512 < X.length) (hk : k = min (X.length - q * 512) 512) :
    (splice (.int .i64 (q : Int) :: .int .i64 0 :: row8 (List.replicate 512 0)) 2 (row8 ((X.drop (q * 512)).take k))).set 1 (.int .i64 (k : Int)) = lwc (secW X q) := by
  obtain ⟨h1, h2⟩ := secW_bytes X q hq
  have e0 : (row8 ((X.drop (q * 512)).take k)).length = k := by rw [row8_len, List.length_take, List.length_drop]; omega
  unfold splice lwc padTo
  rw [e0, h2, h1, ← hk, show (secW X q).at_ / 512 = q from by show q * 512 / 512 = q; omega]
  show ([_, _] ++ (_ ++ List.drop (2 + k) _)).set 1 _ = _
  rw [Nat.add_comm 2 k, List.drop_succ_cons, List.drop_succ_cons, row8_app]
  have e1 : (row8 (List.replicate 512 0)).drop k = row8 (List.replicate (512 - k) 0) := by unfold row8; rw [← List.map_drop, List.drop_replicate]
  rw [e1]
  rfl
theorem own_cells {w : World} {b : Nat} {v : Value} {l : List Nat} (h : Own w b v l) (g : Nat) (e : v.ownBlock = some g) : ∃ cur t k, w.heap[g]? = some (.cells cur t k) := by
  rcases h.1.2 with ⟨q, _⟩ | ⟨g', cap, cur, q, _, hh, _⟩
  · rw [q] at e; cases e
  · rw [q] at e
    obtain rfl : g' = g := Option.some.inj e
    exact ⟨_, _, _, hh⟩
theorem row_cells {w : World} {B k n : Nat} {t : TypeId} {v : Value} {cs : List Value} (h : w.ownsRow B t k v n cs) (g : Nat) (e : v.ownBlock = some g) : ∃ cur t k, w.heap[g]? = some (.cells cur t k) := by
  rcases h.2 with ⟨q, _⟩ | ⟨g', cap, cur, q, _, hh, _⟩
  · rw [q] at e; cases e
  · rw [q] at e
    obtain rfl : g' = g := Option.some.inj e
    exact ⟨_, _, _, hh⟩
theorem Mem.cells {w : World} {d : Nat} {S : DS} {sv fv lv : Value} {t : Bool} (h : Mem w d S sv fv lv t) (k : Nat) (hk : Blks d sv fv lv k) : ∃ cur t k', w.heap[k]? = some (.cells cur t k') := by
  rcases hk with rfl | q | q | q
  · exact ⟨_, _, _, h.blk⟩
  · exact own_cells h.seen k q
  · exact own_cells h.safe k q
  · exact row_cells h.loose k q
theorem lasts_mem {B d : Nat} {S : DS} {sv fv lv : Value} {t : Bool} : Lasts B (fun w => Mem w d S sv fv lv t) := by
  rintro A A' hi ⟨row, hg, hr⟩
  refine hi.keep ⟨0, Blks d sv fv lv, ⟨hg.os, hg.tape, hg.output, hg.size, fun k hk q => hg.block k hk (fun e => ?_)⟩, fun k hk => .inr hk⟩
  obtain ⟨cur, t', k', hc⟩ := hi.cells k (q.resolve_left (by omega))
  obtain ⟨_, o, ho, hn⟩ := hr k e.symm
  rw [hc] at ho; cases ho; cases hn
theorem lasts_turn {B : Nat} {w : World} {F : Nat → Prop} (hB : w.heap.size ≤ B) : Lasts B (fun w' => Turn F w w') := by
  rintro A A' hi ⟨row, hg, hr⟩
  exact ⟨hg.os.trans hi.os, hg.tape.trans hi.tape, hg.output.trans hi.output, Nat.le_trans hi.size hg.size, fun k hk hn => (hg.block k (Nat.lt_of_lt_of_le hk hi.size) (fun e => by have := (hr k e.symm).1; omega)).trans (hi.block k hk hn)⟩
theorem lasts_move {B : Nat} {w : World} {F G : Nat → Prop} (hB : w.heap.size ≤ B) : Lasts B (fun w' => Move w F w' G) := fun A A' hi hs => ⟨lasts_turn hB A A' hi.turn hs, hi.into⟩
theorem keeps_block {B g : Nat} {w w' : World} {cur : Array Value} {t : TypeId} {k : Nat × Nat} (hc : w.heap[g]? = some (.cells cur t k)) (h : w.grownBy w' (some g)) : KeepsFrom B w w' :=
  (KeepsOthers.of_grownBy h fun j o e ho => by
    obtain rfl := Option.some.inj e
    rw [hc] at ho; cases ho; rfl).from B
theorem keeps_row {B b k n : Nat} {t : TypeId} {v : Value} {cs : List Value} {w w' : World} (ho : w.ownsRow b t k v n cs) (h : w.grownBy w' v.ownBlock) : KeepsFrom B w w' :=
  (KeepsOthers.of_grownBy h fun j o e hj => by
    obtain ⟨cur, t', k', hc⟩ := row_cells ho j e
    rw [hc] at hj; cases hj; rfl).from B
/-- What is loose has turned, and the slice is stored. -/
theorem Mem.looseTo {w W : World} {d : Nat} {S : DS} {sv fv lv v : Value} {t : Bool} {L : List LW} (h : Mem w d S sv fv lv t) (o : W.ownsRow 0 70 514 v L.length (lwcs L)) (g : w.grownBy W lv.ownBlock) (k : Newer v lv w.heap.size) : Mem (W.setCell ⟨d, 3, none⟩ v) d { S with loose := L } sv fv v t ∧ Move w (Blks d sv fv lv) (W.setCell ⟨d, 3, none⟩ v) (Blks d sv fv v) := by
  have hl := h.lt
  have hg2 := grownBy_cell W d 3 v
  have nv : v.ownBlock ≠ some d := fun q => by
    rcases k d q with z | z
    · exact h.nl z
    · have := hl d (.inl rfl); omega
  have ns : sv.ownBlock = none ∨ sv.ownBlock ≠ lv.ownBlock := by
    cases e : sv.ownBlock with
    | none => exact .inl rfl
    | some g => exact .inr (fun q => h.sl g e q.symm)
  have nf : fv.ownBlock = none ∨ fv.ownBlock ≠ lv.ownBlock := by
    cases e : fv.ownBlock with
    | none => exact .inl rfl
    | some g => exact .inr (fun q => h.fl g e q.symm)
  refine gone_of h ((Turn.of_row g (fun j e => .inr (.inr (.inr e)))).trans (Turn.of_grown (F := Blks d sv fv lv) hg2 (.inl rfl)) (fun _ q => .inl q)) ((h.blk.grown g (fun e => h.nl e.symm)).set 3 v) ((h.seen.keep g ns).keep hg2 (.inr h.ns)) ((h.safe.keep g nf).keep hg2 (.inr h.nf)) (World.ownsRow.kept o hg2 (.inr nv)) h.tl
    (fun j e => .inl e) (fun j e => .inl e) (fun j e => k j e) (fun j hj e => ?_) (fun j hj e => ?_) (fun j hj e => ?_)
  · have := hl j (.inr (.inl e)); omega
  · have := hl j (.inr (.inl e)); omega
  · have := hl j (.inr (.inr (.inl e))); omega
section
variable {ops : List Oper} {Q : Exit → Act → World → Prop} {o : Oper} {a : Act} {w : World} {I : Told → World → Prop} {tbl : List Fz} {r : Told} {i : Nat} {S : List Nat}
/-- A row is loaded. -/
theorem doesZ_row (hi : i ∉ S) (hw : Region.wanted o (yielded ops.toArray a.tmps) = true) (ty : TypeId) (x : Operand) (ho : o.op = .load ty x) (c f : Nat) (hx : a.eval x = .pointer (some ⟨c, f, none⟩)) (cs : List Value) (hr : w.rangeAt c f cs) (d : TypeDesc) (hu : Try.prog.underlying ty = some d) (hd : d.isRow = true) (hn : (Try.prog.info? ty).map (·.size) = some cs.length) (hI : I r w) (hf : (tbl.getD i .any).holds r (.agg cs.toArray)) :
    DoesK Try.prog ops Q o a w (fun v w' => I (if i ∈ S then r.set i v else r) w' ∧ (tbl.getD i .any).holds (if i ∈ S then r.set i v else r) v) := by
  simp only [if_neg hi]
  exact doesK_load hw ty x ho c f hx cs hr d hu hd hn ⟨hI, hf⟩
/-- Bytes are copied into a block. -/
theorem doesZ_copyB (hi : i ∈ S) (hw : Region.wanted o (yielded ops.toArray a.tmps) = true) (d s : Operand) (dT sT : TypeId) (ho : o.op = .call { callee := .builtin .copy, args := #[d, s], argTypes := #[dT, sT] }) (hu : Try.prog.underlying dT = some (.slice 5)) (g off dLen dCap : Nat) (t : TypeId) (cur : List Value) (hg : Blk w g t cur) (dp : Option Addr) (hd : a.eval d = .slice dp dLen dCap) (y : Value) (hs : a.eval s = y) (m : List Nat) (hy : Rd w y m) (k : Nat) (hk : k = min m.length dLen) (hdp : 0 < k → dp = some ⟨g, off, none⟩) (hfit : off + k ≤ cur.length)
    (h : ∀ w', Blk w' g t (splice cur off (row8 (m.take k))) → w.grownBy w' (some g) → I (r.set i (.int .i64 (k : Int))) w' ∧ (tbl.getD i .any).holds (r.set i (.int .i64 (k : Int))) (.int .i64 (k : Int))) :
    DoesK Try.prog ops Q o a w (fun v w' => I (if i ∈ S then r.set i v else r) w' ∧ (tbl.getD i .any).holds (if i ∈ S then r.set i v else r) v) := by
  refine doesZ_turn hi hw fun K hK => ?_
  obtain ⟨w', hrun, h2, h3⟩ := run_copy_blk dT sT o.type hu g off dLen dCap t cur hg dp y m hy k hk hdp hfit
  unfold Oper.wp
  simp only [execOp, ho, resolve, invoke, builtin, Sem.run_bind, Sem.run_pure, Result.andThen_ok, List.map_toArray, List.map_cons, List.map_nil, hd, hs, hrun]
  exact hK _ _ (h w' h2 h3).1 (h w' h2 h3).2
/-- A slice of one thing is made. -/
theorem doesZ_one (hi : i ∈ S) (hw : Region.wanted o (yielded ops.toArray a.tmps) = true) (x : Operand) (st et : TypeId) (k bytes : Nat) (Z L : List Value) (ho : o.op = .buildSlice st 1 #[(0, x)]) (hst : Try.prog.underlying st = some (.slice et)) (hn : (Try.prog.info? et).map (fun i => (i.zero, i.size, i.bytes)) = some (some (.agg Z.toArray), k, bytes)) (hk0 : 0 < k) (hk1 : k ≤ 4096) (hL : L.length = k) (hx : a.eval x = .agg L.toArray)
    (h : I (r.set i (.slice (some ⟨w.heap.size, 0, none⟩) 1 1)) (w.alloc (.cells L.toArray et)) ∧ (tbl.getD i .any).holds (r.set i (.slice (some ⟨w.heap.size, 0, none⟩) 1 1)) (.slice (some ⟨w.heap.size, 0, none⟩) 1 1)) :
    DoesK Try.prog ops Q o a w (fun v w' => I (if i ∈ S then r.set i v else r) w' ∧ (tbl.getD i .any).holds (if i ∈ S then r.set i v else r) v) := by
  refine doesZ_turn hi hw fun K hK => ?_
  unfold Oper.wp execOp
  rw [ho]
  simp only [List.map_toArray, List.map_cons, List.map_nil, hx, Sem.run_bind, run_oneT w st et k bytes Z L hst hn hk0 hk1 hL, Result.andThen_ok, Sem.run_pure, Oper.upon_value]
  exact hK _ _ h.1 h.2
/-- append of things onto a slice of one's own. -/
theorem doesZ_appT (hi : i ∈ S) (hw : Region.wanted o (yielded ops.toArray a.tmps) = true) (s x : Operand) (st et : TypeId) (k bytes : Nat) (Z : List Value) (ho : o.op = .call { callee := .builtin .append, args := #[s, x], argTypes := #[st, st] }) (hst : Try.prog.underlying st = some (.slice et)) (hinf : (Try.prog.info? et).map (fun i => (i.zero, i.size, i.bytes)) = some (some (.agg Z.toArray), k, bytes)) (hZ : Z.length = k) (hk0 : 0 < k) (hby : bytes ≤ 4096)
    (B : Nat) (v y : Value) (n m : Nat) (cs ds : List Value) (hs : a.eval s = v) (hx : a.eval x = y) (hv : w.ownsRow B et k v n cs) (hy : RdT k w y m ds) (h1 : ∀ u ∈ ds, u.oneCell' = true) (hl : n + m ≤ 34359738368) (hB : B ≤ w.heap.size)
    (h : ∀ v' w', w'.ownsRow B et k v' (n + m) (cs ++ ds) → w.grownBy w' v.ownBlock → (v'.ownBlock = v.ownBlock ∨ v'.ownBlock = some w.heap.size) → I (r.set i v') w' ∧ (tbl.getD i .any).holds (r.set i v') v') :
    DoesK Try.prog ops Q o a w (fun v w' => I (if i ∈ S then r.set i v else r) w' ∧ (tbl.getD i .any).holds (if i ∈ S then r.set i v else r) v) := by
  refine doesZ_turn hi hw fun K hK => ?_
  obtain ⟨v', w', hrun, ho', hg, hk⟩ := run_appT w st et o.type k bytes Z hst hinf hZ hk0 hby B v y n m cs ds hv hy h1 hl hB
  unfold Oper.wp
  simp only [execOp, ho, resolve, invoke, builtin, Sem.run_bind, Sem.run_pure, Result.andThen_ok, List.map_toArray, List.map_cons, List.map_nil, hs, hx, hrun]
  exact hK _ _ (h v' w' ho' hg hk).1 (h v' w' ho' hg hk).2
end
end Go.Proofs.Ytipdcocliefppaa
/- What holds of every device of the program's lasts. Own work. -/
namespace Go.Proofs.Ytipdcocliefppaa
open DM
theorem Inv.new (m : Int) : Inv (DM.new m) := ⟨Nat.le_refl _, fun x hx => (by cases (show x ∈ ([] : List LW) from hx)), fun _ _ _ => rfl, fun _ => rfl⟩
theorem many_of (a n k : Nat) (h1 : a ≤ k) (h2 : k < a + n) : k / 512 - a / 512 < many a n := by
  unfold many
  rw [if_neg (by omega)]
  omega
theorem Inv.wrote {S : DS} (h : Inv S) (p : Nat) (l : List Nat) (hp : p ≤ S.seen.length) : Inv (wrote S p l) := by
  have hge := laid_ge S.seen p l
  refine ⟨Nat.le_trans h.short hge, fun x hx => ?_, fun k hk hx => ?_, h.told⟩
  · rcases List.mem_append.1 hx with q | q
    · exact ⟨(h.wr x q).1, Nat.le_trans (h.wr x q).2 hge⟩
    · obtain ⟨j, hj, rfl⟩ := List.mem_map.1 q
      have hm := many_pos (List.mem_range.1 hj)
      have hlt : (p / 512 + j) * 512 < (laid S.seen p l).length := Nat.lt_of_lt_of_le hm.2 (laid_to _ _ _ (by omega))
      exact secW_wr (laid S.seen p l) (p / 512 + j) hlt
  · show gb S.safe k = gb (laid S.seen p l) k
    rw [laid_get]
    have hk2 : k < (laid S.seen p l).length := hk
    split
    · rename_i hc
      exfalso
      refine hx (sector (laid S.seen p l) p (k / 512 - p / 512)) (List.mem_append.2 (.inr (List.mem_map.2 ⟨_, List.mem_range.2 (many_of p l.length k hc.2.1 hc.2.2), rfl⟩))) ?_
      show (p / 512 + (k / 512 - p / 512)) * 512 / 512 = k / 512
      have := hc.2.1
      omega
    · rename_i hc
      refine h.same k ?_ (fun x hxm => hx x (List.mem_append.2 (.inl hxm)))
      by_cases hl : l = []
      · rw [hl, laid_nil] at hk2; exact hk2
      · rw [laid_len _ _ _ hl] at hk2
        have : ¬ (p ≤ k ∧ k < p + l.length) := fun q => hc ⟨hl, q.1, q.2⟩
        omega
theorem Inv.step {S x : DS} (h : Inv S) (k : Inv x) (ht : x.told = S.told) (ha : x.after = S.after) : Inv (DM.step S x).1 := by
  unfold DM.step
  cases q : S.told with
  | false => exact ⟨k.short, k.wr, k.same, k.told⟩
  | true =>
    rw [if_neg (by decide)]
    by_cases hz : 0 < S.after
    · rw [if_pos hz]
      exact ⟨k.short, k.wr, k.same, fun e => by rw [show x.told = true from ht.trans q] at e; cases e⟩
    · rw [if_neg hz]
      cases S.done with
      | true => exact ⟨k.short, k.wr, k.same, fun _ => by show x.after = 0; omega⟩
      | false => exact ⟨h.short, h.wr, h.same, fun _ => by show S.after = 0; omega⟩
theorem Inv.write {S : DS} (h : Inv S) (z : Int) (l : List Nat) : Inv (DM.write S z l).1 := by
  unfold DM.write
  split
  · exact h
  · split
    · exact h
    · split
      · exact h
      · rename_i h1 _
        exact h.step (h.wrote _ _ (by omega)) rfl rfl
theorem Inv.sync {S : DS} (h : Inv S) : Inv (DM.sync S).1 := by
  unfold DM.sync
  split
  · exact h
  · exact h.step ⟨Nat.le_refl _, fun x hx => (by cases (show x ∈ ([] : List LW) from hx)), fun _ _ _ => rfl, h.told⟩ rfl rfl
theorem Inv.beat {S : DS} (h : Inv S) : Inv (DM.beat S).1 := by
  unfold DM.beat
  split
  · exact h
  · exact h.step h rfl rfl
theorem Inv.fail {S : DS} (h : Inv S) (a : Int) (x : Bool) : Inv (DM.fail S a x).1 := by
  unfold DM.fail
  split
  · exact h
  · exact ⟨h.short, h.wr, h.same, fun e => by cases (show true = false from e)⟩
theorem Inv.start (S : DS) (k : List Nat) : Inv (DM.start S k) := ⟨Nat.le_refl _, fun x hx => (by cases (show x ∈ ([] : List LW) from hx)), fun _ _ _ => rfl, fun _ => rfl⟩
theorem Inv.load {S : DS} (h : Inv S) (b : List Nat) : Inv (DM.load S b) := by
  unfold DM.load
  split
  · exact h
  · exact ⟨Nat.le_refl _, fun x hx => (by cases (show x ∈ ([] : List LW) from hx)), fun _ _ _ => rfl, h.told⟩
theorem Inv.edit {S : DS} (h : Inv S) (z : Int) (b : List Nat) : Inv (DM.edit S z b) := by
  unfold DM.edit
  split
  · exact h
  · rename_i hc
    by_cases hb : b = []
    · subst hb
      exact ⟨by rw [laid_nil, laid_nil]; exact h.short, fun x hx => by rw [laid_nil]; exact h.wr x hx, fun k hk hx => by rw [laid_nil, laid_nil]; rw [laid_nil] at hk; exact h.same k hk hx, h.told⟩
    · refine ⟨?_, fun x hx => ⟨(h.wr x hx).1, Nat.le_trans (h.wr x hx).2 (laid_ge _ _ _)⟩, fun k hk hx => ?_, h.told⟩
      · show (laid S.safe z.toNat b).length ≤ (laid S.seen z.toNat b).length
        rw [laid_len _ _ _ hb, laid_len _ _ _ hb]
        have := h.short
        omega
      · show gb (laid S.safe z.toNat b) k = gb (laid S.seen z.toNat b) k
        have hk2 : k < (laid S.seen z.toNat b).length := hk
        rw [laid_len _ _ _ hb] at hk2
        rw [laid_get, laid_get]
        split
        · rfl
        · rename_i hn
          exact h.same k (by have : ¬ (z.toNat ≤ k ∧ k < z.toNat + b.length) := fun q => hn ⟨hb, q.1, q.2⟩; omega) hx
end Go.Proofs.Ytipdcocliefppaa
