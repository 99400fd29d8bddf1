/- Texts of one subject in one file: RtEq, RtSameA, RtSameB, RtSameC. Own work. -/
import Derived.Test.YtenigdbnfepkeaaDoorRtM
import Derived.Test.YtenigdbnfepkeaaDoorEqX
import Derived.Test.YtenigdbnfepkeaaDoorShaD
import Derived.BigQuiet
/- '==' on refs of a root; ranges of a root's cells. Own work. -/
namespace Go.Proofs.YtenigdbnfepkeaaDoor
open Go.ChangeShapes Go.WideShapes Go.ChangeAt Go.RowKit
open RT
theorem fieldsRf : ∃ f0 f1 : Field, (Tryd.prog.fieldsOf 45).toList = [f0, f1] ∧ (f0.name ≠ "_" ∧ f0.type = 43 ∧ f0.offset = 0) ∧ (f1.name ≠ "_" ∧ f1.type = 24 ∧ f1.offset = 1) := by
  simp only [Program.fieldsOf, Tryd.underlying45]
  exact ⟨_, _, rfl, ⟨by simp, rfl, rfl⟩, ⟨by simp, rfl, rfl⟩⟩
theorem size1Rf (w : World) : (sizeOf 5).run Tryd.prog w = .ok 1 w := by kernel_rfl
theorem sizeSRf (w : World) : (sizeOf 24).run Tryd.prog w = .ok 32 w := by kernel_rfl
/-- Are two refs one? -/
def pgEq (p q : Pg) : Bool := decide (p.at_ = q.at_) && decide (p.sum = q.sum)
theorem pgEq_iff {p q : Pg} : pgEq p q = true ↔ p = q := by
  unfold pgEq
  rw [Bool.and_eq_true, decide_eq_true_eq, decide_eq_true_eq]
  constructor
  · rintro ⟨h1, h2⟩; cases p; cases q; simp only at h1 h2; rw [h1, h2]
  · rintro rfl; exact ⟨rfl, rfl⟩
theorem pc_sum (p : Pg) : ∀ (j : Nat) v, (row8 p.sum)[j]? = some v → (pc p)[1 + j]? = some v := fun j v h => by
  unfold pc
  rw [Nat.add_comm, List.getElem?_cons_succ]; exact h
set_option maxRecDepth 100000 in
theorem equal_ref (w : World) (d : Nat) {p q : Pg} (hp : Pok p) (hq : Pok q) :
    (Op.equalIn (d + 3) 45 (.agg (pc p).toArray) (.agg (pc q).toArray)).run Tryd.prog w = .ok (pgEq p q) w := by
  have p0 : ∀ s : Pg, (part 43 (pc s).toArray 0).run Tryd.prog w = .ok (.int .u32 (s.at_ : Int)) w := fun s => part_cell w _ .u32 (.inr Tryd.underlying43) _ 0 _ rfl
  have p1 : ∀ {s : Pg}, Pok s → (part 24 (pc s).toArray 1).run Tryd.prog w = .ok (.agg (row8 s.sum).toArray) w := fun h => part_row w _ 32 1 _ Tryd.underlying24 sizeSRf _ _ h.2.1 (pc_sum _)
  have q1 := equal_bytes w d 24 5 32 Tryd.underlying24 Tryd.underlying5 size1Rf _ _ hp.2 hq.2
  have q0 := run_equalIn_int (P := Tryd.prog) w (d + 1) 43 .u32 .u32 (p.at_ : Int) (q.at_ : Int) Tryd.underlying43
  rw [run_equalIn_agg w (d + 2) 45 _ _ (by kernel_rfl) (by kernel_rfl)]
  obtain ⟨f0, f1, hL, h0, h1⟩ := fieldsRf
  rw [hL, eqFields_step w (d + 2) _ _ f0 _ _ _ h0 _ _ _ (p0 p) (p0 q) q0, eqFields_step w (d + 2) _ _ f1 _ _ _ h1 _ _ _ (p1 hp) (p1 hq) q1]
  simp only [Op.eqFields, Sem.run_pure]
  have ht : (p.at_ : Int) = (q.at_ : Int) ↔ p.at_ = q.at_ := by omega
  clear p0 p1 q0 q1 hp hq
  unfold pgEq
  by_cases e0 : p.at_ = q.at_
  · by_cases e1 : p.sum = q.sum
    · simp [e0, e1]
    · simp [e0, e1]
  · simp [ht, e0]
theorem run_eql_ref {p q : Pg} (hp : Pok p) (hq : Pok q) (w : World) : (binOp .eql 45 (.agg (pc p).toArray) (.agg (pc q).toArray)).run Tryd.prog w = .ok (.bool (pgEq p q)) w := by
  rw [run_eql_struct, equal_ref w 9997 hp hq]; rfl
theorem run_neq_ref {p q : Pg} (hp : Pok p) (hq : Pok q) (w : World) : (binOp .neq 45 (.agg (pc p).toArray) (.agg (pc q).toArray)).run Tryd.prog w = .ok (.bool (!pgEq p q)) w := by
  have h := run_eql_ref hp hq w
  simp only [binOp, Sem.run_bind, Sem.run_pure] at h ⊢
  cases k : (Op.equal 45 (.agg (pc p).toArray) (.agg (pc q).toArray)).run Tryd.prog w with
  | ok b w' =>
    rw [k] at h
    simp only [Result.andThen_ok, Result.ok.injEq, Value.bool.injEq] at h ⊢
    exact ⟨by rw [h.1], h.2⟩
  | _ => rw [k] at h; simp [Result.andThen] at h
theorem eqTypeRf : Tryd.prog.eqGuardType Tryd.prog.depth 45 = false := by kernel_rfl
theorem infoRf : (Tryd.prog.info? 45).map (·.size) = some 33 := by kernel_rfl
theorem infoSm : (Tryd.prog.info? 24).map (·.size) = some 32 := by kernel_rfl
theorem eqTypeSm : Tryd.prog.eqGuardType Tryd.prog.depth 24 = false := by kernel_rfl
/-- The cells of Super and of Keys, where a root lies. -/
theorem rt_range_sup {w : World} {b : Nat} {t : TypeId} {r : Rt} {v : Value} (h : Blk w b t (rtc r v)) (hr : Ok r) : w.rangeAt b 1 (row8 r.sup) := range_part h 1 _ fun j u hu => by
  rw [← rtc_sup hr v] at hu
  rw [List.getElem?_take] at hu
  split at hu
  · rw [List.getElem?_drop] at hu; exact hu
  · cases hu
theorem rt_range_keys {w : World} {b : Nat} {t : TypeId} {r : Rt} {v : Value} (h : Blk w b t (rtc r v)) (hr : Ok r) : w.rangeAt b 34 (row8 r.keys) := range_part h 34 _ fun j u hu => by
  rw [← rtc_keys hr v] at hu
  rw [List.getElem?_take] at hu
  split at hu
  · rw [List.getElem?_drop] at hu; exact hu
  · cases hu
/-- The cells of a page. -/
theorem ref_range {w : World} {ao : Option Addr} {cap : Nat} {ps : List Pg} (h : RdT 33 w (.slice ao ps.length cap) ps.length (pcs ps)) (hp : ∀ p ∈ ps, Pok p) {k : Nat} (hk : k < ps.length) :
    ∃ b off, ao = some ⟨b, off, none⟩ ∧ w.rangeAt b (off + k * 33) (pc ps[k]) := by
  obtain ⟨b, off, e, hc⟩ := h.at_ (by decide) k hk
  refine ⟨b, off, e, fun i u hu => ?_⟩
  have hi : i < 33 := by
    rw [← pc_len (hp _ (List.getElem_mem hk))]
    rcases Nat.lt_or_ge i (pc ps[k]).length with q | q
    · exact q
    · rw [List.getElem?_eq_none q] at hu; cases hu
  have h2 := hc i u hi (by rw [pcs_get hp hk hi]; exact hu)
  rw [Nat.add_assoc]; exact h2
/-- An operation of a quiet walk whose value is told. -/
theorem wpQuiet_told {P : Program} {ops : Array Oper} {rest : List Oper} {o : Oper} {a : Act} {Q : Act → Prop} (w : World) (hw : Region.wanted o (yielded ops a.tmps) = true) (v : Value) (h : ∀ n, (execOp a.eval o).run P (w.drewN n) = .ok (.value v) (w.drewN n))
    (hr : wpQuiet P ops (fun w' => ∃ n, w' = w.drewN n) Q rest (a.put o.dst v)) : wpQuiet P ops (fun w' => ∃ n, w' = w.drewN n) Q (o :: rest) a :=
  wpQuiet_step fun K hK => by rw [if_pos hw]; exact ⟨v, fun w' ⟨n, e⟩ => by subst e; unfold Oper.quietAt; rw [h n]; exact ⟨rfl, rfl⟩, hK _ hr⟩
theorem ex_load_part {P : Program} {o : Oper} {a : Act} {w : World} (ty : TypeId) (x : Operand) (ho : o.op = .load ty x) (b k : Nat) (hx : a.eval x = .pointer (some ⟨b, k, none⟩)) (cs : List Value) (d : TypeDesc) (hr : w.rangeAt b k cs) (hu : P.underlying ty = some d) (hd : d.isRow = true) (hi : (P.info? ty).map (·.size) = some cs.length) : (execOp a.eval o).run P w = .ok (.value (.agg cs.toArray)) w := by
  unfold execOp
  simp only [ho, hx, Instr.loadAt, Instr.sureAddr, Sem.run_bind, Sem.run_pure, Result.andThen_ok, run_loadVar_mid w b k _ _ _ hr hu hd hi]
theorem range_dN {w : World} {b k : Nat} {cs : List Value} (h : w.rangeAt b k cs) (n : Nat) : (w.drewN n).rangeAt b k cs := fun i u hu => h i u hu
theorem blk_dN {w : World} {b : Nat} {t : TypeId} {l : List Value} (h : Blk w b t l) (n : Nat) : Blk (w.drewN n) b t l := h.below (below_dN (Below.refl _ _) n) h.lt
/-- A row loaded behind a guard, two things compared behind one: what the operation is stands first, so that a wrong one is passed over quickly. -/
theorem wpList_loadW {P : Program} {ops : Array Oper} {rest : List Oper} {op : Oper} {a : Act} {w : World} {Q : Exit → Act → World → Prop} (ty : TypeId) (x : Operand) (ho : op.op = .load ty x)
    (b o : Nat) (hx : a.eval x = .pointer (some ⟨b, o, none⟩)) (cs : List Value) (d : TypeDesc) (hc : w.rangeAt b o cs)
    (hu : P.underlying ty = some d) (hd : d.isRow = true) (hi : (P.info? ty).map (·.size) = some cs.length) (hw : Region.wanted op (yielded ops a.tmps) = true)
    (h : wpList P ops Q rest (a.put op.dst (.agg cs.toArray)) w) : wpList P ops Q (op :: rest) a w := wpList_load_wanted hw ty x ho b o hx cs d hc hu hd hi h
theorem wpList_binW {P : Program} {ops : Array Oper} {rest : List Oper} {op : Oper} {a : Act} {w : World} {Q : Exit → Act → World → Prop} (x y : Operand) (b : BinOp) (t z : TypeId) (ho : op.op = .binOp b t x y z) (u u' v : Value) (hx : a.eval x = u) (hy : a.eval y = u')
    (hg : (eqGuard b t x y u u').run P w = .ok () w) (hb : (binOp b t u u').run P w = .ok v w) (hw : Region.wanted op (yielded ops a.tmps) = true) (h : wpList P ops Q rest (a.put op.dst v) w) : wpList P ops Q (op :: rest) a w := wpList_wanted hw v (ex_binOp ho hx hy hg hb) h
theorem rt_eq_iff (r s : Rt) : r = s ↔ r.ver = s.ver ∧ r.sup = s.sup ∧ r.area = s.area ∧ r.keys = s.keys ∧ r.len = s.len ∧ r.pages = s.pages := by
  constructor
  · rintro rfl; exact ⟨rfl, rfl, rfl, rfl, rfl, rfl⟩
  · rintro ⟨h1, h2, h3, h4, h5, h6⟩; cases r; cases s; simp only at h1 h2 h3 h4 h5 h6; rw [h1, h2, h3, h4, h5, h6]
end Go.Proofs.YtenigdbnfepkeaaDoor
/- Are two roots one: contracts, the document's answer and the program's (with slices.Equal). Written by gen_rtsame.py. Own work. -/
namespace Go.Proofs.YtenigdbnfepkeaaDoor
open Go.ChangeShapes Go.WideShapes Go.ChangeAt Go.RowKit
open RT
set_option maxRecDepth 100000 in
set_option maxHeartbeats 1000000 in
theorem refsEqual_any (ps qs : List Pg) (hp : ∀ p ∈ ps, Pok p) (hq : ∀ p ∈ qs, Pok p) (v u : Value) (w : World) (hv : RdT 33 w v ps.length (pcs ps)) (hu : RdT 33 w u qs.length (pcs qs)) (hn1 : ps.length ≤ 140737488355328) :
    Calls Tryd.prog 31 #[v, u] w fun e w' => ∃ b, e = .returned b ∧ (b = .bool true ∧ ps = qs ∨ b = .bool false ∧ ps ≠ qs) ∧ Below w.heap.size w w' := by
  obtain ⟨ra, rq, rfl, hrq⟩ := hv.shape
  obtain ⟨sa, sq, rfl, hsq⟩ := hu.shape
  have HV := Lib.hid hv
  have HU := Lib.hid hu
  have HPR := Lib.hid hp
  have HPS := Lib.hid hq
  obtain ⟨n, hn⟩ : ∃ n, n = ps.length := ⟨_, rfl⟩
  obtain ⟨m, hm⟩ : ∃ n, n = qs.length := ⟨_, rfl⟩
  rw [← hn] at hn1
  rw [← hn, ← hm]
  have HN := Lib.hid hn
  have HM := Lib.hid hm
  clear hv hu hp hq hrq hsq hn hm
  by_cases g5 : n = m
  · subst g5
    go_enter Tryd.func31, Tryd.ntmps31
    go_wp2_with fail
    go_loopw [13] (fun i wr => ∃ k : Nat, k ≤ n ∧ i = .int .i64 (k : Int) ∧ Below w.heap.size w wr ∧ ∀ j (h1 : j < ps.length) (h2 : j < qs.length), j < k → ps[j] = qs[j]) (fun i _ => n - (intOf i).toNat)
    case atStart => exact ⟨0, Nat.zero_le _, rfl, Below.refl _ _, fun j _ _ h => absurd h (Nat.not_lt_zero j)⟩
    case round =>
      obtain ⟨k, hk, rfl, hw, hz⟩ := hrel
      have HZ := Lib.hid hz
      have W1 := Lib.hid hw
      clear hz hw
      by_cases hlt : k < n
      · have hkp : k < ps.length := by rw [← HN.out]; exact hlt
        have hkq : k < qs.length := by rw [← HM.out]; exact hlt
        obtain ⟨pb, po, rfl, hpc⟩ := ref_range (HV.out.below W1.out) HPR.out hkp
        obtain ⟨qb, qo, rfl, hqc⟩ := ref_range (HU.out.below W1.out) HPS.out hkq
        have PC := Lib.hid hpc
        have QC := Lib.hid hqc
        have EQ := fun W => run_neq_ref (HPR.out _ (List.getElem_mem hkp)) (HPS.out _ (List.getElem_mem hkq)) W
        have PL := Lib.hid (pc_len (HPR.out _ (List.getElem_mem hkp)))
        have QL := Lib.hid (pc_len (HPS.out _ (List.getElem_mem hkq)))
        have hklt : (k : Int) < (n : Int) := by omega
        have hk0 : (0 : Int) ≤ (k : Int) := by omega
        clear hpc hqc
        have H6 := Lib.hid (fun W => EQ W)
        clear EQ
        by_cases he : ps[k] = qs[k]
        · rw [pgEq_iff.2 he] at H6
          have HQ := Lib.hid he
          clear he
          go_wp2_with fail
          refine wp_region_quiet_lit (by kernel_rfl) (by kernel_rfl) ?_
          repeat (first
            | go_big_quiet_step (fail)
            | (refine wpQuiet_told _ rfl _ (fun n' => ex_load_part 45 (.tmp 18) rfl pb (po + k * 33) rfl (pc ps[k]) _ (range_dN PC.out n') Tryd.underlying45 rfl (by rw [PL.out]; exact infoRf)) ?_; simp only [Act.put, List.setIfInBounds_toArray, List.set_cons_zero, List.set_cons_succ])
            | (refine wpQuiet_told _ rfl _ (fun n' => ex_load_part 45 (.tmp 22) rfl qb (qo + k * 33) rfl (pc qs[k]) _ (range_dN QC.out n') Tryd.underlying45 rfl (by rw [QL.out]; exact infoRf)) ?_; simp only [Act.put, List.setIfInBounds_toArray, List.set_cons_zero, List.set_cons_succ])
            | (refine wpQuiet_told _ rfl _ (fun n' => ex_binOp (x := .tmp 19) (y := .tmp 23) (b := .neq) (t := 45) rfl rfl rfl (run_eqGuard_agg (P := Tryd.prog) (w := _) .neq 45 _ _ _ _ eqTypeRf) (H6.out _)) ?_; simp only [Act.put, List.setIfInBounds_toArray, List.set_cons_zero, List.set_cons_succ]))
          refine wpQuiet_nil ?_
          intro _ hw'
          obtain ⟨nq, hw''⟩ := hw'
          subst hw''
          go_wp2_with fail
          refine ⟨⟨k + 1, by omega, by go_num, (below_dN W1.out _), fun j h1 h2 hjk => ?_⟩, by simp [intOf]; omega⟩
          by_cases e : j = k
          · subst e; exact HQ.out
          · exact HZ.out j h1 h2 (by omega)
        · rw [Bool.eq_false_iff.2 (fun h => he (pgEq_iff.1 h))] at H6
          have HQ := Lib.hid (fun e : ps = qs => he (by subst e; rfl))
          clear he
          go_wp2_with fail
          refine wp_region_quiet_lit (by kernel_rfl) (by kernel_rfl) ?_
          repeat (first
            | go_big_quiet_step (fail)
            | (refine wpQuiet_told _ rfl _ (fun n' => ex_load_part 45 (.tmp 18) rfl pb (po + k * 33) rfl (pc ps[k]) _ (range_dN PC.out n') Tryd.underlying45 rfl (by rw [PL.out]; exact infoRf)) ?_; simp only [Act.put, List.setIfInBounds_toArray, List.set_cons_zero, List.set_cons_succ])
            | (refine wpQuiet_told _ rfl _ (fun n' => ex_load_part 45 (.tmp 22) rfl qb (qo + k * 33) rfl (pc qs[k]) _ (range_dN QC.out n') Tryd.underlying45 rfl (by rw [QL.out]; exact infoRf)) ?_; simp only [Act.put, List.setIfInBounds_toArray, List.set_cons_zero, List.set_cons_succ])
            | (refine wpQuiet_told _ rfl _ (fun n' => ex_binOp (x := .tmp 19) (y := .tmp 23) (b := .neq) (t := 45) rfl rfl rfl (run_eqGuard_agg (P := Tryd.prog) (w := _) .neq 45 _ _ _ _ eqTypeRf) (H6.out _)) ?_; simp only [Act.put, List.setIfInBounds_toArray, List.set_cons_zero, List.set_cons_succ]))
          refine wpQuiet_nil ?_
          intro _ hw'
          obtain ⟨nq, hw''⟩ := hw'
          subst hw''
          go_wp2_with fail
          go_ret
          exact ⟨.bool false, rfl, .inr ⟨rfl, HQ.out⟩, (below_dN W1.out _)⟩
      · obtain rfl : k = n := by omega
        have HA := Lib.hid (show ps = qs from List.ext_getElem (by rw [← HN.out, ← HM.out]) fun j h1 h2 => HZ.out j h1 h2 (by rw [HN.out]; exact h1))
        have hkk : ¬ (k : Int) < (k : Int) := by omega
        go_wp2_with fail
        go_ret
        exact ⟨.bool true, rfl, .inl ⟨rfl, HA.out⟩, W1.out⟩
  · have q1 : ((n : Int) == (m : Int)) = false := by rw [beq_eq_false_iff_ne]; omega
    have q2 : ((n : Int) != (m : Int)) = true := by rw [bne, q1]; rfl
    have q3 : ¬ (n : Int) = (m : Int) := by omega
    have HG := Lib.hid (fun e : ps = qs => g5 (by rw [HN.out, HM.out, e]))
    clear g5
    go_enter Tryd.func31, Tryd.ntmps31
    go_wp2_with fail
    go_ret
    exact ⟨.bool false, rfl, .inr ⟨rfl, HG.out⟩, Below.refl _ _⟩
end Go.Proofs.YtenigdbnfepkeaaDoor
/- Are two roots one: contracts, the document's answer and the program's (with slices.Equal). Written by gen_rtsame.py. Own work. -/
namespace Go.Proofs.YtenigdbnfepkeaaDoor
open Go.ChangeShapes Go.WideShapes Go.ChangeAt Go.RowKit
open RT
set_option maxRecDepth 100000 in
set_option maxHeartbeats 8000000 in
theorem psame_any (r s : Rt) (hr : Ok r) (hs : Ok s) (v u : Value) (w : World) (hv : RdT 33 w v r.pages.length (pcs r.pages)) (hu : RdT 33 w u s.pages.length (pcs s.pages)) (hn1 : r.pages.length ≤ 140737488355328) :
    Calls Tryd.prog 19 #[.agg (rtc r v).toArray, .agg (rtc s u).toArray] w fun e w' => ∃ b, e = .returned b ∧ (b = .bool true ∧ r = s ∨ b = .bool false ∧ r ≠ s) ∧ Below w.heap.size w w' := by
  obtain ⟨ra, rq, rfl, hrq⟩ := hv.shape
  obtain ⟨sa, sq, rfl, hsq⟩ := hu.shape
  obtain ⟨L, hL⟩ : ∃ L, L = rtc r (.slice ra r.pages.length rq) := ⟨_, rfl⟩
  obtain ⟨M, hM⟩ : ∃ M, M = rtc s (.slice sa s.pages.length sq) := ⟨_, rfl⟩
  have b1 := (Blk.new w 27 L _ rfl).alloc (.cells M.toArray 27)
  have b2 := Blk.new (w.alloc (.cells L.toArray 27)) 27 M _ rfl
  rw [show (w.alloc (.cells L.toArray 27)).heap.size = w.heap.size + 1 by simp] at b2
  have W1 := Lib.hid (((Below.refl w.heap.size w).alloc (Nat.le_refl _) (.cells L.toArray 27)).alloc (by simp) (.cells M.toArray 27))
  have HV := Lib.hid (hv.below W1.out)
  have HV0 := Lib.hid hv
  have HU0 := Lib.hid hu
  have HU := Lib.hid (hu.below W1.out)
  have HPR := Lib.hid hr.pages
  have HPS := Lib.hid hs.pages
  have c0 := b1.cell 0 _ (by rw [hL]; exact rtc_ver r _)
  have c33 := b1.cell 33 _ (by rw [hL]; exact rtc_area hr _)
  have c66 := b1.cell 66 _ (by rw [hL]; exact rtc_lenc hr _)
  have c67 := b1.cell 67 _ (by rw [hL]; exact rtc_pages hr _)
  have d0 := b2.cell 0 _ (by rw [hM]; exact rtc_ver s _)
  have d33 := b2.cell 33 _ (by rw [hM]; exact rtc_area hs _)
  have d66 := b2.cell 66 _ (by rw [hM]; exact rtc_lenc hs _)
  have d67 := b2.cell 67 _ (by rw [hM]; exact rtc_pages hs _)
  have FL := Lib.hid (show L[67]? = some (.slice ra r.pages.length rq) by rw [hL]; exact rtc_pages hr _)
  have FM := Lib.hid (show M[67]? = some (.slice sa s.pages.length sq) by rw [hM]; exact rtc_pages hs _)
  have B1 := Lib.hid b1
  have B2 := Lib.hid b2
  have d1 : Blk ((w.alloc (.cells L.toArray 27)).alloc (.cells M.toArray 27)) w.heap.size 27 (rtc r (.slice ra r.pages.length rq)) := by rw [← hL]; exact b1
  have d2 : Blk ((w.alloc (.cells L.toArray 27)).alloc (.cells M.toArray 27)) (w.heap.size + 1) 27 (rtc s (.slice sa s.pages.length sq)) := by rw [← hM]; exact b2
  have RSr := rt_range_sup d1 hr
  have RKr := rt_range_keys d1 hr
  have RSs := rt_range_sup d2 hs
  have RKs := rt_range_keys d2 hs
  clear d1 d2
  have ES := Lib.hid (fun W => run_eql_sum hr.sup hs.sup W)
  have EK := Lib.hid (fun W => run_eql_sum hr.keys hs.keys W)
  have BSr := Lib.hid hr.sup
  have BKr := Lib.hid hr.keys
  have BSs := Lib.hid hs.sup
  have BKs := Lib.hid hs.keys
  have HE := Lib.hid (rt_eq_iff r s)
  rw [← hL, ← hM]
  obtain ⟨rv, h0⟩ : ∃ x, x = r.ver := ⟨_, rfl⟩
  obtain ⟨sv, h1⟩ : ∃ x, x = s.ver := ⟨_, rfl⟩
  obtain ⟨Sr, h2⟩ : ∃ x, x = r.sup := ⟨_, rfl⟩
  obtain ⟨Ss, h3⟩ : ∃ x, x = s.sup := ⟨_, rfl⟩
  obtain ⟨ar, h4⟩ : ∃ x, x = r.area := ⟨_, rfl⟩
  obtain ⟨az, h5⟩ : ∃ x, x = s.area := ⟨_, rfl⟩
  obtain ⟨Kr, h6⟩ : ∃ x, x = r.keys := ⟨_, rfl⟩
  obtain ⟨Ks, h7⟩ : ∃ x, x = s.keys := ⟨_, rfl⟩
  obtain ⟨lr, h8⟩ : ∃ x, x = r.len := ⟨_, rfl⟩
  obtain ⟨ls, h9⟩ : ∃ x, x = s.len := ⟨_, rfl⟩
  obtain ⟨ps, h10⟩ : ∃ x, x = r.pages := ⟨_, rfl⟩
  obtain ⟨qs, h11⟩ : ∃ x, x = s.pages := ⟨_, rfl⟩
  rw [← h0, ← h1, ← h2, ← h3, ← h4, ← h5, ← h6, ← h7, ← h8, ← h9, ← h10, ← h11] at HE
  rw [← h0] at c0
  rw [← h1] at d0
  rw [← h2] at RSr BSr ES
  rw [← h3] at RSs BSs ES
  rw [← h4] at c33
  rw [← h5] at d33
  rw [← h6] at RKr BKr EK
  rw [← h7] at RKs BKs EK
  rw [← h8] at c66
  rw [← h9] at d66
  rw [← h10] at c67 HV HV0 HPR FL hn1
  rw [← h11] at d67 HU HU0 HPS FM
  have RSr := Lib.hid RSr
  have RSs := Lib.hid RSs
  have RKr := Lib.hid RKr
  have RKs := Lib.hid RKs
  obtain ⟨n, hn⟩ : ∃ n, n = ps.length := ⟨_, rfl⟩
  obtain ⟨m, hm⟩ : ∃ n, n = qs.length := ⟨_, rfl⟩
  have HB1 := Lib.hid hn1
  rw [← hn] at c67 FL hn1
  rw [← hm] at d67 FM
  have HN := Lib.hid hn
  have HM := Lib.hid hm
  clear h0 h1 h2 h3 h4 h5 h6 h7 h8 h9 h10 h11 hL hM hn hm hv hu hrq hsq hr hs b1 b2
  by_cases g0 : rv = sv
  · subst g0
    by_cases g1 : Sr = Ss
    · rw [decide_eq_true g1] at ES
      have HG1 := Lib.hid g1
      clear g1
      by_cases g2 : ar = az
      · subst g2
        by_cases g3 : Kr = Ks
        · rw [decide_eq_true g3] at EK
          have HG3 := Lib.hid g3
          clear g3
          by_cases g4 : lr = ls
          · subst g4
            have HEQ := Lib.hid (refsEqual_any ps qs HPR.out HPS.out _ _ _ HV.out HU.out HB1.out)
            rw [← HN.out, ← HM.out] at HEQ
            go_enter Tryd.func19, Tryd.ntmps19
            go_wp2_with (first
              | ((with_reducible show wpList _ _ _ (Oper.mk _ (.load _ (.tmp 11)) _ _ _ _ :: _) _ _); refine wpList_loadW 24 (.tmp 11) rfl w.heap.size 1 rfl (row8 Sr) _ RSr.out Tryd.underlying24 rfl (by rw [row8_len, BSr.out.1]; exact infoSm) rfl ?_)
              | ((with_reducible show wpList _ _ _ (Oper.mk _ (.load _ (.tmp 13)) _ _ _ _ :: _) _ _); refine wpList_loadW 24 (.tmp 13) rfl (w.heap.size + 1) 1 rfl (row8 Ss) _ RSs.out Tryd.underlying24 rfl (by rw [row8_len, BSs.out.1]; exact infoSm) rfl ?_)
              | ((with_reducible show wpList _ _ _ (Oper.mk _ (.binOp _ _ (.tmp 12) (.tmp 14) _) _ _ _ _ :: _) _ _); refine wpList_binW (.tmp 12) (.tmp 14) .eql 24 24 rfl (.agg (row8 Sr).toArray) (.agg (row8 Ss).toArray) _ rfl rfl (run_eqGuard_agg (P := Tryd.prog) (w := _) .eql 24 _ _ _ _ eqTypeSm) (ES.out _) rfl ?_)
              | ((with_reducible show wpList _ _ _ (Oper.mk _ (.load _ (.tmp 25)) _ _ _ _ :: _) _ _); refine wpList_loadW 24 (.tmp 25) rfl w.heap.size 34 rfl (row8 Kr) _ RKr.out Tryd.underlying24 rfl (by rw [row8_len, BKr.out.1]; exact infoSm) rfl ?_)
              | ((with_reducible show wpList _ _ _ (Oper.mk _ (.load _ (.tmp 27)) _ _ _ _ :: _) _ _); refine wpList_loadW 24 (.tmp 27) rfl (w.heap.size + 1) 34 rfl (row8 Ks) _ RKs.out Tryd.underlying24 rfl (by rw [row8_len, BKs.out.1]; exact infoSm) rfl ?_)
              | ((with_reducible show wpList _ _ _ (Oper.mk _ (.binOp _ _ (.tmp 26) (.tmp 28) _) _ _ _ _ :: _) _ _); refine wpList_binW (.tmp 26) (.tmp 28) .eql 24 24 rfl (.agg (row8 Kr).toArray) (.agg (row8 Ks).toArray) _ rfl rfl (run_eqGuard_agg (P := Tryd.prog) (w := _) .eql 24 _ _ _ _ eqTypeSm) (EK.out _) rfl ?_)
              | (go_at_call 31; (with_reducible refine HEQ.out.mono ?_); rintro e w2 ⟨b, rfl, hb, b2⟩; have W2 := Lib.hid (W1.out.on b2); rcases hb with ⟨rfl, hb⟩ | ⟨rfl, hb⟩ <;> (have HB := Lib.hid hb; clear hb)))
            · go_wp2_with fail
              go_ret
              exact ⟨_, rfl, .inl ⟨rfl, HE.out.2 ⟨by simp, HG1.out, by simp, HG3.out, by simp, HB.out⟩⟩, W2.out⟩
            · go_wp2_with fail
              go_ret
              exact ⟨_, rfl, .inr ⟨rfl, fun h => absurd (HE.out.1 h).2.2.2.2.2 HB.out⟩, W2.out⟩
          · have q1 : ((lr : Int) == (ls : Int)) = false := by rw [beq_eq_false_iff_ne]; omega
            have q2 : ((lr : Int) != (ls : Int)) = true := by rw [bne, q1]; rfl
            have q3 : ¬ (lr : Int) = (ls : Int) := by omega
            have HG := Lib.hid g4
            clear g4
            go_enter Tryd.func19, Tryd.ntmps19
            go_wp2_with (first
              | ((with_reducible show wpList _ _ _ (Oper.mk _ (.load _ (.tmp 11)) _ _ _ _ :: _) _ _); refine wpList_loadW 24 (.tmp 11) rfl w.heap.size 1 rfl (row8 Sr) _ RSr.out Tryd.underlying24 rfl (by rw [row8_len, BSr.out.1]; exact infoSm) rfl ?_)
              | ((with_reducible show wpList _ _ _ (Oper.mk _ (.load _ (.tmp 13)) _ _ _ _ :: _) _ _); refine wpList_loadW 24 (.tmp 13) rfl (w.heap.size + 1) 1 rfl (row8 Ss) _ RSs.out Tryd.underlying24 rfl (by rw [row8_len, BSs.out.1]; exact infoSm) rfl ?_)
              | ((with_reducible show wpList _ _ _ (Oper.mk _ (.binOp _ _ (.tmp 12) (.tmp 14) _) _ _ _ _ :: _) _ _); refine wpList_binW (.tmp 12) (.tmp 14) .eql 24 24 rfl (.agg (row8 Sr).toArray) (.agg (row8 Ss).toArray) _ rfl rfl (run_eqGuard_agg (P := Tryd.prog) (w := _) .eql 24 _ _ _ _ eqTypeSm) (ES.out _) rfl ?_)
              | ((with_reducible show wpList _ _ _ (Oper.mk _ (.load _ (.tmp 25)) _ _ _ _ :: _) _ _); refine wpList_loadW 24 (.tmp 25) rfl w.heap.size 34 rfl (row8 Kr) _ RKr.out Tryd.underlying24 rfl (by rw [row8_len, BKr.out.1]; exact infoSm) rfl ?_)
              | ((with_reducible show wpList _ _ _ (Oper.mk _ (.load _ (.tmp 27)) _ _ _ _ :: _) _ _); refine wpList_loadW 24 (.tmp 27) rfl (w.heap.size + 1) 34 rfl (row8 Ks) _ RKs.out Tryd.underlying24 rfl (by rw [row8_len, BKs.out.1]; exact infoSm) rfl ?_)
              | ((with_reducible show wpList _ _ _ (Oper.mk _ (.binOp _ _ (.tmp 26) (.tmp 28) _) _ _ _ _ :: _) _ _); refine wpList_binW (.tmp 26) (.tmp 28) .eql 24 24 rfl (.agg (row8 Kr).toArray) (.agg (row8 Ks).toArray) _ rfl rfl (run_eqGuard_agg (P := Tryd.prog) (w := _) .eql 24 _ _ _ _ eqTypeSm) (EK.out _) rfl ?_))
            go_ret
            exact ⟨.bool false, rfl, .inr ⟨rfl, fun h => absurd (HE.out.1 h).2.2.2.2.1 HG.out⟩, W1.out⟩
        · rw [decide_eq_false g3] at EK
          have HG := Lib.hid g3
          clear g3
          go_enter Tryd.func19, Tryd.ntmps19
          go_wp2_with (first
            | ((with_reducible show wpList _ _ _ (Oper.mk _ (.load _ (.tmp 11)) _ _ _ _ :: _) _ _); refine wpList_loadW 24 (.tmp 11) rfl w.heap.size 1 rfl (row8 Sr) _ RSr.out Tryd.underlying24 rfl (by rw [row8_len, BSr.out.1]; exact infoSm) rfl ?_)
            | ((with_reducible show wpList _ _ _ (Oper.mk _ (.load _ (.tmp 13)) _ _ _ _ :: _) _ _); refine wpList_loadW 24 (.tmp 13) rfl (w.heap.size + 1) 1 rfl (row8 Ss) _ RSs.out Tryd.underlying24 rfl (by rw [row8_len, BSs.out.1]; exact infoSm) rfl ?_)
            | ((with_reducible show wpList _ _ _ (Oper.mk _ (.binOp _ _ (.tmp 12) (.tmp 14) _) _ _ _ _ :: _) _ _); refine wpList_binW (.tmp 12) (.tmp 14) .eql 24 24 rfl (.agg (row8 Sr).toArray) (.agg (row8 Ss).toArray) _ rfl rfl (run_eqGuard_agg (P := Tryd.prog) (w := _) .eql 24 _ _ _ _ eqTypeSm) (ES.out _) rfl ?_)
            | ((with_reducible show wpList _ _ _ (Oper.mk _ (.load _ (.tmp 25)) _ _ _ _ :: _) _ _); refine wpList_loadW 24 (.tmp 25) rfl w.heap.size 34 rfl (row8 Kr) _ RKr.out Tryd.underlying24 rfl (by rw [row8_len, BKr.out.1]; exact infoSm) rfl ?_)
            | ((with_reducible show wpList _ _ _ (Oper.mk _ (.load _ (.tmp 27)) _ _ _ _ :: _) _ _); refine wpList_loadW 24 (.tmp 27) rfl (w.heap.size + 1) 34 rfl (row8 Ks) _ RKs.out Tryd.underlying24 rfl (by rw [row8_len, BKs.out.1]; exact infoSm) rfl ?_)
            | ((with_reducible show wpList _ _ _ (Oper.mk _ (.binOp _ _ (.tmp 26) (.tmp 28) _) _ _ _ _ :: _) _ _); refine wpList_binW (.tmp 26) (.tmp 28) .eql 24 24 rfl (.agg (row8 Kr).toArray) (.agg (row8 Ks).toArray) _ rfl rfl (run_eqGuard_agg (P := Tryd.prog) (w := _) .eql 24 _ _ _ _ eqTypeSm) (EK.out _) rfl ?_))
          go_ret
          exact ⟨.bool false, rfl, .inr ⟨rfl, fun h => absurd (HE.out.1 h).2.2.2.1 HG.out⟩, W1.out⟩
      · have q1 : ((ar : Int) == (az : Int)) = false := by rw [beq_eq_false_iff_ne]; omega
        have q2 : ((ar : Int) != (az : Int)) = true := by rw [bne, q1]; rfl
        have q3 : ¬ (ar : Int) = (az : Int) := by omega
        have HG := Lib.hid g2
        clear g2
        go_enter Tryd.func19, Tryd.ntmps19
        go_wp2_with (first
          | ((with_reducible show wpList _ _ _ (Oper.mk _ (.load _ (.tmp 11)) _ _ _ _ :: _) _ _); refine wpList_loadW 24 (.tmp 11) rfl w.heap.size 1 rfl (row8 Sr) _ RSr.out Tryd.underlying24 rfl (by rw [row8_len, BSr.out.1]; exact infoSm) rfl ?_)
          | ((with_reducible show wpList _ _ _ (Oper.mk _ (.load _ (.tmp 13)) _ _ _ _ :: _) _ _); refine wpList_loadW 24 (.tmp 13) rfl (w.heap.size + 1) 1 rfl (row8 Ss) _ RSs.out Tryd.underlying24 rfl (by rw [row8_len, BSs.out.1]; exact infoSm) rfl ?_)
          | ((with_reducible show wpList _ _ _ (Oper.mk _ (.binOp _ _ (.tmp 12) (.tmp 14) _) _ _ _ _ :: _) _ _); refine wpList_binW (.tmp 12) (.tmp 14) .eql 24 24 rfl (.agg (row8 Sr).toArray) (.agg (row8 Ss).toArray) _ rfl rfl (run_eqGuard_agg (P := Tryd.prog) (w := _) .eql 24 _ _ _ _ eqTypeSm) (ES.out _) rfl ?_))
        go_ret
        exact ⟨.bool false, rfl, .inr ⟨rfl, fun h => absurd (HE.out.1 h).2.2.1 HG.out⟩, W1.out⟩
    · rw [decide_eq_false g1] at ES
      have HG := Lib.hid g1
      clear g1
      go_enter Tryd.func19, Tryd.ntmps19
      go_wp2_with (first
        | ((with_reducible show wpList _ _ _ (Oper.mk _ (.load _ (.tmp 11)) _ _ _ _ :: _) _ _); refine wpList_loadW 24 (.tmp 11) rfl w.heap.size 1 rfl (row8 Sr) _ RSr.out Tryd.underlying24 rfl (by rw [row8_len, BSr.out.1]; exact infoSm) rfl ?_)
        | ((with_reducible show wpList _ _ _ (Oper.mk _ (.load _ (.tmp 13)) _ _ _ _ :: _) _ _); refine wpList_loadW 24 (.tmp 13) rfl (w.heap.size + 1) 1 rfl (row8 Ss) _ RSs.out Tryd.underlying24 rfl (by rw [row8_len, BSs.out.1]; exact infoSm) rfl ?_)
        | ((with_reducible show wpList _ _ _ (Oper.mk _ (.binOp _ _ (.tmp 12) (.tmp 14) _) _ _ _ _ :: _) _ _); refine wpList_binW (.tmp 12) (.tmp 14) .eql 24 24 rfl (.agg (row8 Sr).toArray) (.agg (row8 Ss).toArray) _ rfl rfl (run_eqGuard_agg (P := Tryd.prog) (w := _) .eql 24 _ _ _ _ eqTypeSm) (ES.out _) rfl ?_))
      go_ret
      exact ⟨.bool false, rfl, .inr ⟨rfl, fun h => absurd (HE.out.1 h).2.1 HG.out⟩, W1.out⟩
  · have q1 : ((rv : Int) == (sv : Int)) = false := by rw [beq_eq_false_iff_ne]; omega
    have q2 : ((rv : Int) != (sv : Int)) = true := by rw [bne, q1]; rfl
    have q3 : ¬ (rv : Int) = (sv : Int) := by omega
    have HG := Lib.hid g0
    clear g0
    go_enter Tryd.func19, Tryd.ntmps19
    go_wp2_with fail
    go_ret
    exact ⟨.bool false, rfl, .inr ⟨rfl, fun h => absurd (HE.out.1 h).1 HG.out⟩, W1.out⟩
end Go.Proofs.YtenigdbnfepkeaaDoor
/- Are two roots one: contracts, the document's answer and the program's (with slices.Equal). Written by gen_rtsame.py. Own work. -/
namespace Go.Proofs.YtenigdbnfepkeaaDoor
open Go.ChangeShapes Go.WideShapes Go.ChangeAt Go.RowKit
open RT
set_option maxRecDepth 100000 in
set_option maxHeartbeats 8000000 in
theorem rrsame_any (r s : Rt) (hr : Ok r) (hs : Ok s) (v u : Value) (w : World) (hv : RdT 33 w v r.pages.length (pcs r.pages)) (hu : RdT 33 w u s.pages.length (pcs s.pages)) (hn1 : r.pages.length ≤ 140737488355328) :
    Calls Tryd.prog 13 #[.agg (rtc r v).toArray, .agg (rtc s u).toArray] w fun e w' => ∃ b, e = .returned b ∧ (b = .bool true ∧ r = s ∨ b = .bool false ∧ r ≠ s) ∧ Below w.heap.size w w' := by
  obtain ⟨ra, rq, rfl, hrq⟩ := hv.shape
  obtain ⟨sa, sq, rfl, hsq⟩ := hu.shape
  obtain ⟨L, hL⟩ : ∃ L, L = rtc r (.slice ra r.pages.length rq) := ⟨_, rfl⟩
  obtain ⟨M, hM⟩ : ∃ M, M = rtc s (.slice sa s.pages.length sq) := ⟨_, rfl⟩
  have b1 := (Blk.new w 27 L _ rfl).alloc (.cells M.toArray 27)
  have b2 := Blk.new (w.alloc (.cells L.toArray 27)) 27 M _ rfl
  rw [show (w.alloc (.cells L.toArray 27)).heap.size = w.heap.size + 1 by simp] at b2
  have W1 := Lib.hid (((Below.refl w.heap.size w).alloc (Nat.le_refl _) (.cells L.toArray 27)).alloc (by simp) (.cells M.toArray 27))
  have HV := Lib.hid (hv.below W1.out)
  have HV0 := Lib.hid hv
  have HU0 := Lib.hid hu
  have HU := Lib.hid (hu.below W1.out)
  have HPR := Lib.hid hr.pages
  have HPS := Lib.hid hs.pages
  have c0 := b1.cell 0 _ (by rw [hL]; exact rtc_ver r _)
  have c33 := b1.cell 33 _ (by rw [hL]; exact rtc_area hr _)
  have c66 := b1.cell 66 _ (by rw [hL]; exact rtc_lenc hr _)
  have c67 := b1.cell 67 _ (by rw [hL]; exact rtc_pages hr _)
  have d0 := b2.cell 0 _ (by rw [hM]; exact rtc_ver s _)
  have d33 := b2.cell 33 _ (by rw [hM]; exact rtc_area hs _)
  have d66 := b2.cell 66 _ (by rw [hM]; exact rtc_lenc hs _)
  have d67 := b2.cell 67 _ (by rw [hM]; exact rtc_pages hs _)
  have FL := Lib.hid (show L[67]? = some (.slice ra r.pages.length rq) by rw [hL]; exact rtc_pages hr _)
  have FM := Lib.hid (show M[67]? = some (.slice sa s.pages.length sq) by rw [hM]; exact rtc_pages hs _)
  have B1 := Lib.hid b1
  have B2 := Lib.hid b2
  have d1 : Blk ((w.alloc (.cells L.toArray 27)).alloc (.cells M.toArray 27)) w.heap.size 27 (rtc r (.slice ra r.pages.length rq)) := by rw [← hL]; exact b1
  have d2 : Blk ((w.alloc (.cells L.toArray 27)).alloc (.cells M.toArray 27)) (w.heap.size + 1) 27 (rtc s (.slice sa s.pages.length sq)) := by rw [← hM]; exact b2
  have RSr := rt_range_sup d1 hr
  have RKr := rt_range_keys d1 hr
  have RSs := rt_range_sup d2 hs
  have RKs := rt_range_keys d2 hs
  clear d1 d2
  have ES := Lib.hid (fun W => run_neq_sum hr.sup hs.sup W)
  have EK := Lib.hid (fun W => run_neq_sum hr.keys hs.keys W)
  have BSr := Lib.hid hr.sup
  have BKr := Lib.hid hr.keys
  have BSs := Lib.hid hs.sup
  have BKs := Lib.hid hs.keys
  have HE := Lib.hid (rt_eq_iff r s)
  rw [← hL, ← hM]
  obtain ⟨rv, h0⟩ : ∃ x, x = r.ver := ⟨_, rfl⟩
  obtain ⟨sv, h1⟩ : ∃ x, x = s.ver := ⟨_, rfl⟩
  obtain ⟨Sr, h2⟩ : ∃ x, x = r.sup := ⟨_, rfl⟩
  obtain ⟨Ss, h3⟩ : ∃ x, x = s.sup := ⟨_, rfl⟩
  obtain ⟨ar, h4⟩ : ∃ x, x = r.area := ⟨_, rfl⟩
  obtain ⟨az, h5⟩ : ∃ x, x = s.area := ⟨_, rfl⟩
  obtain ⟨Kr, h6⟩ : ∃ x, x = r.keys := ⟨_, rfl⟩
  obtain ⟨Ks, h7⟩ : ∃ x, x = s.keys := ⟨_, rfl⟩
  obtain ⟨lr, h8⟩ : ∃ x, x = r.len := ⟨_, rfl⟩
  obtain ⟨ls, h9⟩ : ∃ x, x = s.len := ⟨_, rfl⟩
  obtain ⟨ps, h10⟩ : ∃ x, x = r.pages := ⟨_, rfl⟩
  obtain ⟨qs, h11⟩ : ∃ x, x = s.pages := ⟨_, rfl⟩
  rw [← h0, ← h1, ← h2, ← h3, ← h4, ← h5, ← h6, ← h7, ← h8, ← h9, ← h10, ← h11] at HE
  rw [← h0] at c0
  rw [← h1] at d0
  rw [← h2] at RSr BSr ES
  rw [← h3] at RSs BSs ES
  rw [← h4] at c33
  rw [← h5] at d33
  rw [← h6] at RKr BKr EK
  rw [← h7] at RKs BKs EK
  rw [← h8] at c66
  rw [← h9] at d66
  rw [← h10] at c67 HV HV0 HPR FL hn1
  rw [← h11] at d67 HU HU0 HPS FM
  have RSr := Lib.hid RSr
  have RSs := Lib.hid RSs
  have RKr := Lib.hid RKr
  have RKs := Lib.hid RKs
  obtain ⟨n, hn⟩ : ∃ n, n = ps.length := ⟨_, rfl⟩
  obtain ⟨m, hm⟩ : ∃ n, n = qs.length := ⟨_, rfl⟩
  have HB1 := Lib.hid hn1
  rw [← hn] at c67 FL hn1
  rw [← hm] at d67 FM
  have HN := Lib.hid hn
  have HM := Lib.hid hm
  clear h0 h1 h2 h3 h4 h5 h6 h7 h8 h9 h10 h11 hL hM hn hm hv hu hrq hsq hr hs b1 b2
  by_cases g0 : rv = sv
  · subst g0
    by_cases g1 : Sr = Ss
    · rw [decide_eq_true g1] at ES
      have HG1 := Lib.hid g1
      clear g1
      by_cases g2 : ar = az
      · subst g2
        by_cases g3 : Kr = Ks
        · rw [decide_eq_true g3] at EK
          have HG3 := Lib.hid g3
          clear g3
          by_cases g4 : lr = ls
          · subst g4
            by_cases g5 : n = m
            · subst g5
              go_enter Tryd.func13, Tryd.ntmps13
              go_wp2_with (first
                | ((with_reducible show wpList _ _ _ (Oper.mk _ (.load _ (.tmp 12)) _ _ _ _ :: _) _ _); refine wpList_loadW 24 (.tmp 12) rfl w.heap.size 1 rfl (row8 Sr) _ RSr.out Tryd.underlying24 rfl (by rw [row8_len, BSr.out.1]; exact infoSm) rfl ?_)
                | ((with_reducible show wpList _ _ _ (Oper.mk _ (.load _ (.tmp 14)) _ _ _ _ :: _) _ _); refine wpList_loadW 24 (.tmp 14) rfl (w.heap.size + 1) 1 rfl (row8 Ss) _ RSs.out Tryd.underlying24 rfl (by rw [row8_len, BSs.out.1]; exact infoSm) rfl ?_)
                | ((with_reducible show wpList _ _ _ (Oper.mk _ (.binOp _ _ (.tmp 13) (.tmp 15) _) _ _ _ _ :: _) _ _); refine wpList_binW (.tmp 13) (.tmp 15) .neq 24 24 rfl (.agg (row8 Sr).toArray) (.agg (row8 Ss).toArray) _ rfl rfl (run_eqGuard_agg (P := Tryd.prog) (w := _) .neq 24 _ _ _ _ eqTypeSm) (ES.out _) rfl ?_)
                | ((with_reducible show wpList _ _ _ (Oper.mk _ (.load _ (.tmp 26)) _ _ _ _ :: _) _ _); refine wpList_loadW 24 (.tmp 26) rfl w.heap.size 34 rfl (row8 Kr) _ RKr.out Tryd.underlying24 rfl (by rw [row8_len, BKr.out.1]; exact infoSm) rfl ?_)
                | ((with_reducible show wpList _ _ _ (Oper.mk _ (.load _ (.tmp 28)) _ _ _ _ :: _) _ _); refine wpList_loadW 24 (.tmp 28) rfl (w.heap.size + 1) 34 rfl (row8 Ks) _ RKs.out Tryd.underlying24 rfl (by rw [row8_len, BKs.out.1]; exact infoSm) rfl ?_)
                | ((with_reducible show wpList _ _ _ (Oper.mk _ (.binOp _ _ (.tmp 27) (.tmp 29) _) _ _ _ _ :: _) _ _); refine wpList_binW (.tmp 27) (.tmp 29) .neq 24 24 rfl (.agg (row8 Kr).toArray) (.agg (row8 Ks).toArray) _ rfl rfl (run_eqGuard_agg (P := Tryd.prog) (w := _) .neq 24 _ _ _ _ eqTypeSm) (EK.out _) rfl ?_))
              go_loopw [5] (fun i wr => ∃ k : Nat, k ≤ n ∧ i = .int .i64 (k : Int) ∧ Below w.heap.size w wr ∧ Blk wr w.heap.size 27 L ∧ Blk wr (w.heap.size + 1) 27 M ∧ ∀ j (h1 : j < ps.length) (h2 : j < qs.length), j < k → ps[j] = qs[j]) (fun i _ => n - (intOf i).toNat)
              case atStart => exact ⟨0, Nat.zero_le _, rfl, W1.out, B1.out, B2.out, fun j _ _ h => absurd h (Nat.not_lt_zero j)⟩
              case round =>
                clear c0 d0 c33 d33 c66 d66 c67 d67 W1 B1 B2
                obtain ⟨k, hk, rfl, hw, hb1, hb2, hz⟩ := hrel
                have c67 := hb1.cell 67 _ FL.out
                have d67 := hb2.cell 67 _ FM.out
                have W1 := Lib.hid hw
                have B1 := Lib.hid hb1
                have B2 := Lib.hid hb2
                clear hw hb1 hb2
                have HZ := Lib.hid hz
                clear hz
                by_cases hlt : k < n
                · have hkp : k < ps.length := by rw [← HN.out]; exact hlt
                  have hkq : k < qs.length := by rw [← HM.out]; exact hlt
                  obtain ⟨pb, po, rfl, hpc⟩ := ref_range (HV0.out.below W1.out) HPR.out hkp
                  obtain ⟨qb, qo, rfl, hqc⟩ := ref_range (HU0.out.below W1.out) HPS.out hkq
                  have PC := Lib.hid hpc
                  have QC := Lib.hid hqc
                  have EQ := fun W => run_neq_ref (HPR.out _ (List.getElem_mem hkp)) (HPS.out _ (List.getElem_mem hkq)) W
                  have PL := Lib.hid (pc_len (HPR.out _ (List.getElem_mem hkp)))
                  have QL := Lib.hid (pc_len (HPS.out _ (List.getElem_mem hkq)))
                  have hklt : (k : Int) < (n : Int) := by omega
                  have hk0 : (0 : Int) ≤ (k : Int) := by omega
                  clear hpc hqc
                  have H6 := Lib.hid (fun W => EQ W)
                  clear EQ
                  by_cases he : ps[k] = qs[k]
                  · rw [pgEq_iff.2 he] at H6
                    have HQ := Lib.hid he
                    clear he
                    go_wp2_with fail
                    refine wp_region_quiet_lit (by kernel_rfl) (by kernel_rfl) ?_
                    repeat (first
                      | go_big_quiet_step (fail)
                      | (refine wpQuiet_told _ rfl _ (fun n' => ex_load_part 45 (.tmp 58) rfl pb (po + k * 33) rfl (pc ps[k]) _ (range_dN PC.out n') Tryd.underlying45 rfl (by rw [PL.out]; exact infoRf)) ?_; simp only [Act.put, List.setIfInBounds_toArray, List.set_cons_zero, List.set_cons_succ])
                      | (refine wpQuiet_told _ rfl _ (fun n' => ex_load_part 45 (.tmp 63) rfl qb (qo + k * 33) rfl (pc qs[k]) _ (range_dN QC.out n') Tryd.underlying45 rfl (by rw [QL.out]; exact infoRf)) ?_; simp only [Act.put, List.setIfInBounds_toArray, List.set_cons_zero, List.set_cons_succ])
                      | (refine wpQuiet_told _ rfl _ (fun n' => ex_binOp (x := .tmp 59) (y := .tmp 64) (b := .neq) (t := 45) rfl rfl rfl (run_eqGuard_agg (P := Tryd.prog) (w := _) .neq 45 _ _ _ _ eqTypeRf) (H6.out _)) ?_; simp only [Act.put, List.setIfInBounds_toArray, List.set_cons_zero, List.set_cons_succ]))
                    refine wpQuiet_nil ?_
                    intro _ hw'
                    obtain ⟨nq, hw''⟩ := hw'
                    subst hw''
                    go_wp2_with fail
                    refine ⟨⟨k + 1, by omega, by go_num, below_dN W1.out _, blk_dN B1.out _, blk_dN B2.out _, fun j h1 h2 hjk => ?_⟩, by simp [intOf]; omega⟩
                    by_cases e : j = k
                    · subst e; exact HQ.out
                    · exact HZ.out j h1 h2 (by omega)
                  · rw [Bool.eq_false_iff.2 (fun h => he (pgEq_iff.1 h))] at H6
                    have HQ := Lib.hid (fun e : ps = qs => he (by subst e; rfl))
                    clear he
                    go_wp2_with fail
                    refine wp_region_quiet_lit (by kernel_rfl) (by kernel_rfl) ?_
                    repeat (first
                      | go_big_quiet_step (fail)
                      | (refine wpQuiet_told _ rfl _ (fun n' => ex_load_part 45 (.tmp 58) rfl pb (po + k * 33) rfl (pc ps[k]) _ (range_dN PC.out n') Tryd.underlying45 rfl (by rw [PL.out]; exact infoRf)) ?_; simp only [Act.put, List.setIfInBounds_toArray, List.set_cons_zero, List.set_cons_succ])
                      | (refine wpQuiet_told _ rfl _ (fun n' => ex_load_part 45 (.tmp 63) rfl qb (qo + k * 33) rfl (pc qs[k]) _ (range_dN QC.out n') Tryd.underlying45 rfl (by rw [QL.out]; exact infoRf)) ?_; simp only [Act.put, List.setIfInBounds_toArray, List.set_cons_zero, List.set_cons_succ])
                      | (refine wpQuiet_told _ rfl _ (fun n' => ex_binOp (x := .tmp 59) (y := .tmp 64) (b := .neq) (t := 45) rfl rfl rfl (run_eqGuard_agg (P := Tryd.prog) (w := _) .neq 45 _ _ _ _ eqTypeRf) (H6.out _)) ?_; simp only [Act.put, List.setIfInBounds_toArray, List.set_cons_zero, List.set_cons_succ]))
                    refine wpQuiet_nil ?_
                    intro _ hw'
                    obtain ⟨nq, hw''⟩ := hw'
                    subst hw''
                    go_wp2_with fail
                    go_ret
                    exact ⟨.bool false, rfl, .inr ⟨rfl, fun h => absurd (HE.out.1 h).2.2.2.2.2 HQ.out⟩, below_dN W1.out _⟩
                · obtain rfl : k = n := by omega
                  have HA := Lib.hid (show ps = qs from List.ext_getElem (by rw [← HN.out, ← HM.out]) fun j h1 h2 => HZ.out j h1 h2 (by rw [HN.out]; exact h1))
                  have hkk : ¬ (k : Int) < (k : Int) := by omega
                  go_wp2_with fail
                  go_ret
                  exact ⟨.bool true, rfl, .inl ⟨rfl, HE.out.2 ⟨by simp, HG1.out, by simp, HG3.out, by simp, HA.out⟩⟩, W1.out⟩
            · have q1 : ((n : Int) == (m : Int)) = false := by rw [beq_eq_false_iff_ne]; omega
              have q2 : ((n : Int) != (m : Int)) = true := by rw [bne, q1]; rfl
              have q3 : ¬ (n : Int) = (m : Int) := by omega
              have HG := Lib.hid (fun e : ps = qs => g5 (by rw [HN.out, HM.out, e]))
              clear g5
              go_enter Tryd.func13, Tryd.ntmps13
              go_wp2_with (first
                | ((with_reducible show wpList _ _ _ (Oper.mk _ (.load _ (.tmp 12)) _ _ _ _ :: _) _ _); refine wpList_loadW 24 (.tmp 12) rfl w.heap.size 1 rfl (row8 Sr) _ RSr.out Tryd.underlying24 rfl (by rw [row8_len, BSr.out.1]; exact infoSm) rfl ?_)
                | ((with_reducible show wpList _ _ _ (Oper.mk _ (.load _ (.tmp 14)) _ _ _ _ :: _) _ _); refine wpList_loadW 24 (.tmp 14) rfl (w.heap.size + 1) 1 rfl (row8 Ss) _ RSs.out Tryd.underlying24 rfl (by rw [row8_len, BSs.out.1]; exact infoSm) rfl ?_)
                | ((with_reducible show wpList _ _ _ (Oper.mk _ (.binOp _ _ (.tmp 13) (.tmp 15) _) _ _ _ _ :: _) _ _); refine wpList_binW (.tmp 13) (.tmp 15) .neq 24 24 rfl (.agg (row8 Sr).toArray) (.agg (row8 Ss).toArray) _ rfl rfl (run_eqGuard_agg (P := Tryd.prog) (w := _) .neq 24 _ _ _ _ eqTypeSm) (ES.out _) rfl ?_)
                | ((with_reducible show wpList _ _ _ (Oper.mk _ (.load _ (.tmp 26)) _ _ _ _ :: _) _ _); refine wpList_loadW 24 (.tmp 26) rfl w.heap.size 34 rfl (row8 Kr) _ RKr.out Tryd.underlying24 rfl (by rw [row8_len, BKr.out.1]; exact infoSm) rfl ?_)
                | ((with_reducible show wpList _ _ _ (Oper.mk _ (.load _ (.tmp 28)) _ _ _ _ :: _) _ _); refine wpList_loadW 24 (.tmp 28) rfl (w.heap.size + 1) 34 rfl (row8 Ks) _ RKs.out Tryd.underlying24 rfl (by rw [row8_len, BKs.out.1]; exact infoSm) rfl ?_)
                | ((with_reducible show wpList _ _ _ (Oper.mk _ (.binOp _ _ (.tmp 27) (.tmp 29) _) _ _ _ _ :: _) _ _); refine wpList_binW (.tmp 27) (.tmp 29) .neq 24 24 rfl (.agg (row8 Kr).toArray) (.agg (row8 Ks).toArray) _ rfl rfl (run_eqGuard_agg (P := Tryd.prog) (w := _) .neq 24 _ _ _ _ eqTypeSm) (EK.out _) rfl ?_))
              go_ret
              exact ⟨.bool false, rfl, .inr ⟨rfl, fun h => absurd (HE.out.1 h).2.2.2.2.2 HG.out⟩, W1.out⟩
          · have q1 : ((lr : Int) == (ls : Int)) = false := by rw [beq_eq_false_iff_ne]; omega
            have q2 : ((lr : Int) != (ls : Int)) = true := by rw [bne, q1]; rfl
            have q3 : ¬ (lr : Int) = (ls : Int) := by omega
            have HG := Lib.hid g4
            clear g4
            go_enter Tryd.func13, Tryd.ntmps13
            go_wp2_with (first
              | ((with_reducible show wpList _ _ _ (Oper.mk _ (.load _ (.tmp 12)) _ _ _ _ :: _) _ _); refine wpList_loadW 24 (.tmp 12) rfl w.heap.size 1 rfl (row8 Sr) _ RSr.out Tryd.underlying24 rfl (by rw [row8_len, BSr.out.1]; exact infoSm) rfl ?_)
              | ((with_reducible show wpList _ _ _ (Oper.mk _ (.load _ (.tmp 14)) _ _ _ _ :: _) _ _); refine wpList_loadW 24 (.tmp 14) rfl (w.heap.size + 1) 1 rfl (row8 Ss) _ RSs.out Tryd.underlying24 rfl (by rw [row8_len, BSs.out.1]; exact infoSm) rfl ?_)
              | ((with_reducible show wpList _ _ _ (Oper.mk _ (.binOp _ _ (.tmp 13) (.tmp 15) _) _ _ _ _ :: _) _ _); refine wpList_binW (.tmp 13) (.tmp 15) .neq 24 24 rfl (.agg (row8 Sr).toArray) (.agg (row8 Ss).toArray) _ rfl rfl (run_eqGuard_agg (P := Tryd.prog) (w := _) .neq 24 _ _ _ _ eqTypeSm) (ES.out _) rfl ?_)
              | ((with_reducible show wpList _ _ _ (Oper.mk _ (.load _ (.tmp 26)) _ _ _ _ :: _) _ _); refine wpList_loadW 24 (.tmp 26) rfl w.heap.size 34 rfl (row8 Kr) _ RKr.out Tryd.underlying24 rfl (by rw [row8_len, BKr.out.1]; exact infoSm) rfl ?_)
              | ((with_reducible show wpList _ _ _ (Oper.mk _ (.load _ (.tmp 28)) _ _ _ _ :: _) _ _); refine wpList_loadW 24 (.tmp 28) rfl (w.heap.size + 1) 34 rfl (row8 Ks) _ RKs.out Tryd.underlying24 rfl (by rw [row8_len, BKs.out.1]; exact infoSm) rfl ?_)
              | ((with_reducible show wpList _ _ _ (Oper.mk _ (.binOp _ _ (.tmp 27) (.tmp 29) _) _ _ _ _ :: _) _ _); refine wpList_binW (.tmp 27) (.tmp 29) .neq 24 24 rfl (.agg (row8 Kr).toArray) (.agg (row8 Ks).toArray) _ rfl rfl (run_eqGuard_agg (P := Tryd.prog) (w := _) .neq 24 _ _ _ _ eqTypeSm) (EK.out _) rfl ?_))
            go_ret
            exact ⟨.bool false, rfl, .inr ⟨rfl, fun h => absurd (HE.out.1 h).2.2.2.2.1 HG.out⟩, W1.out⟩
        · rw [decide_eq_false g3] at EK
          have HG := Lib.hid g3
          clear g3
          go_enter Tryd.func13, Tryd.ntmps13
          go_wp2_with (first
            | ((with_reducible show wpList _ _ _ (Oper.mk _ (.load _ (.tmp 12)) _ _ _ _ :: _) _ _); refine wpList_loadW 24 (.tmp 12) rfl w.heap.size 1 rfl (row8 Sr) _ RSr.out Tryd.underlying24 rfl (by rw [row8_len, BSr.out.1]; exact infoSm) rfl ?_)
            | ((with_reducible show wpList _ _ _ (Oper.mk _ (.load _ (.tmp 14)) _ _ _ _ :: _) _ _); refine wpList_loadW 24 (.tmp 14) rfl (w.heap.size + 1) 1 rfl (row8 Ss) _ RSs.out Tryd.underlying24 rfl (by rw [row8_len, BSs.out.1]; exact infoSm) rfl ?_)
            | ((with_reducible show wpList _ _ _ (Oper.mk _ (.binOp _ _ (.tmp 13) (.tmp 15) _) _ _ _ _ :: _) _ _); refine wpList_binW (.tmp 13) (.tmp 15) .neq 24 24 rfl (.agg (row8 Sr).toArray) (.agg (row8 Ss).toArray) _ rfl rfl (run_eqGuard_agg (P := Tryd.prog) (w := _) .neq 24 _ _ _ _ eqTypeSm) (ES.out _) rfl ?_)
            | ((with_reducible show wpList _ _ _ (Oper.mk _ (.load _ (.tmp 26)) _ _ _ _ :: _) _ _); refine wpList_loadW 24 (.tmp 26) rfl w.heap.size 34 rfl (row8 Kr) _ RKr.out Tryd.underlying24 rfl (by rw [row8_len, BKr.out.1]; exact infoSm) rfl ?_)
            | ((with_reducible show wpList _ _ _ (Oper.mk _ (.load _ (.tmp 28)) _ _ _ _ :: _) _ _); refine wpList_loadW 24 (.tmp 28) rfl (w.heap.size + 1) 34 rfl (row8 Ks) _ RKs.out Tryd.underlying24 rfl (by rw [row8_len, BKs.out.1]; exact infoSm) rfl ?_)
            | ((with_reducible show wpList _ _ _ (Oper.mk _ (.binOp _ _ (.tmp 27) (.tmp 29) _) _ _ _ _ :: _) _ _); refine wpList_binW (.tmp 27) (.tmp 29) .neq 24 24 rfl (.agg (row8 Kr).toArray) (.agg (row8 Ks).toArray) _ rfl rfl (run_eqGuard_agg (P := Tryd.prog) (w := _) .neq 24 _ _ _ _ eqTypeSm) (EK.out _) rfl ?_))
          go_ret
          exact ⟨.bool false, rfl, .inr ⟨rfl, fun h => absurd (HE.out.1 h).2.2.2.1 HG.out⟩, W1.out⟩
      · have q1 : ((ar : Int) == (az : Int)) = false := by rw [beq_eq_false_iff_ne]; omega
        have q2 : ((ar : Int) != (az : Int)) = true := by rw [bne, q1]; rfl
        have q3 : ¬ (ar : Int) = (az : Int) := by omega
        have HG := Lib.hid g2
        clear g2
        go_enter Tryd.func13, Tryd.ntmps13
        go_wp2_with (first
          | ((with_reducible show wpList _ _ _ (Oper.mk _ (.load _ (.tmp 12)) _ _ _ _ :: _) _ _); refine wpList_loadW 24 (.tmp 12) rfl w.heap.size 1 rfl (row8 Sr) _ RSr.out Tryd.underlying24 rfl (by rw [row8_len, BSr.out.1]; exact infoSm) rfl ?_)
          | ((with_reducible show wpList _ _ _ (Oper.mk _ (.load _ (.tmp 14)) _ _ _ _ :: _) _ _); refine wpList_loadW 24 (.tmp 14) rfl (w.heap.size + 1) 1 rfl (row8 Ss) _ RSs.out Tryd.underlying24 rfl (by rw [row8_len, BSs.out.1]; exact infoSm) rfl ?_)
          | ((with_reducible show wpList _ _ _ (Oper.mk _ (.binOp _ _ (.tmp 13) (.tmp 15) _) _ _ _ _ :: _) _ _); refine wpList_binW (.tmp 13) (.tmp 15) .neq 24 24 rfl (.agg (row8 Sr).toArray) (.agg (row8 Ss).toArray) _ rfl rfl (run_eqGuard_agg (P := Tryd.prog) (w := _) .neq 24 _ _ _ _ eqTypeSm) (ES.out _) rfl ?_))
        go_ret
        exact ⟨.bool false, rfl, .inr ⟨rfl, fun h => absurd (HE.out.1 h).2.2.1 HG.out⟩, W1.out⟩
    · rw [decide_eq_false g1] at ES
      have HG := Lib.hid g1
      clear g1
      go_enter Tryd.func13, Tryd.ntmps13
      go_wp2_with (first
        | ((with_reducible show wpList _ _ _ (Oper.mk _ (.load _ (.tmp 12)) _ _ _ _ :: _) _ _); refine wpList_loadW 24 (.tmp 12) rfl w.heap.size 1 rfl (row8 Sr) _ RSr.out Tryd.underlying24 rfl (by rw [row8_len, BSr.out.1]; exact infoSm) rfl ?_)
        | ((with_reducible show wpList _ _ _ (Oper.mk _ (.load _ (.tmp 14)) _ _ _ _ :: _) _ _); refine wpList_loadW 24 (.tmp 14) rfl (w.heap.size + 1) 1 rfl (row8 Ss) _ RSs.out Tryd.underlying24 rfl (by rw [row8_len, BSs.out.1]; exact infoSm) rfl ?_)
        | ((with_reducible show wpList _ _ _ (Oper.mk _ (.binOp _ _ (.tmp 13) (.tmp 15) _) _ _ _ _ :: _) _ _); refine wpList_binW (.tmp 13) (.tmp 15) .neq 24 24 rfl (.agg (row8 Sr).toArray) (.agg (row8 Ss).toArray) _ rfl rfl (run_eqGuard_agg (P := Tryd.prog) (w := _) .neq 24 _ _ _ _ eqTypeSm) (ES.out _) rfl ?_))
      go_ret
      exact ⟨.bool false, rfl, .inr ⟨rfl, fun h => absurd (HE.out.1 h).2.1 HG.out⟩, W1.out⟩
  · have q1 : ((rv : Int) == (sv : Int)) = false := by rw [beq_eq_false_iff_ne]; omega
    have q2 : ((rv : Int) != (sv : Int)) = true := by rw [bne, q1]; rfl
    have q3 : ¬ (rv : Int) = (sv : Int) := by omega
    have HG := Lib.hid g0
    clear g0
    go_enter Tryd.func13, Tryd.ntmps13
    go_wp2_with fail
    go_ret
    exact ⟨.bool false, rfl, .inr ⟨rfl, fun h => absurd (HE.out.1 h).1 HG.out⟩, W1.out⟩
end Go.Proofs.YtenigdbnfepkeaaDoor
