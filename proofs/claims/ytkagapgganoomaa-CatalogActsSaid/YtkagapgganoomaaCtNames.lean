/- The program tells the snapshots' names: contract. Own work. -/
import Derived.Test.YtkagapgganoomaaCtPl
import Derived.Test.YtkagapgganoomaaCtArg
import Derived.Laws.OwnMore
import Derived.Laws.MakeOwn
namespace Go.Proofs.Ytkagapgganoomaa
open Go.ChangeShapes Go.WideShapes Go.ChangeAt Go.RowKit
open RT CT
theorem infoStr : (Try.prog.info? 9).map (fun i => (i.zero, i.size, i.bytes)) = some (some (.string ⟨#[]⟩), 1, 16) := by kernel_rfl
def strs (l : List ByteArray) : List Value := l.map Value.string
theorem owned_strs {w : World} {B : Nat} {v : Value} {l : List ByteArray} (h : w.ownsRow B 9 1 v l.length (strs l)) (hf : l.length ≤ 140737488355328) : Strs w v l := by
  refine ⟨hf, ?_⟩
  rcases (owned_rd h).form with ⟨e, q⟩ | ⟨ad, cap, e, hc, hs⟩
  · exact .inl ⟨e, List.eq_nil_of_length_eq_zero q⟩
  · exact .inr ⟨ad, cap, e, hc, fun j s hj => hs j _ (by unfold strs; rw [List.getElem?_map, hj]; rfl)⟩
theorem Strs.spot {w : World} {ao : Option Addr} {n cap : Nat} {l : List ByteArray} (h : Strs w (.slice ao n cap) l) (j : Nat) (hj : j < l.length) : ∃ b off, ao = some ⟨b, off, none⟩ ∧ w.cell? ⟨b, off + j, none⟩ = some (.string l[j]) := by
  obtain ⟨ad, e, hc⟩ := h.at_ j hj
  obtain ⟨b, off, spot⟩ := ad
  have hspot : spot = none := by
    obtain ⟨_, e0, hc0⟩ := h.at_ 0 (by omega)
    rw [e] at e0
    cases e0
    exact World.cell?_spot (by rw [show (⟨b, off, spot⟩ : Addr).add 0 = ⟨b, off, spot⟩ by simp [Addr.add]] at hc0; exact hc0)
  subst hspot
  exact ⟨b, off, e, by rw [← Addr.add_lit]; exact hc⟩
/-- The names of the first k; those behind are none yet. -/
def namesTo (l : List Sn) (k : Nat) : List ByteArray := (l.take k).map Sn.name ++ List.replicate (l.length - k) ⟨#[]⟩
theorem namesTo_len (l : List Sn) {k : Nat} (h : k ≤ l.length) : (namesTo l k).length = l.length := by unfold namesTo; simp; omega
theorem namesTo_zero (l : List Sn) : namesTo l 0 = List.replicate l.length ⟨#[]⟩ := by unfold namesTo; simp
theorem namesTo_all (l : List Sn) : namesTo l l.length = l.map Sn.name := by unfold namesTo; simp
theorem namesTo_set (l : List Sn) {k : Nat} (h : k < l.length) : (namesTo l k).set k l[k].name = namesTo l (k + 1) := by
  unfold namesTo
  rw [List.set_append_right _ _ (by simp; omega), List.take_succ_eq_append_getElem h, List.map_append, List.append_assoc]
  congr 1
  have e : l.length - k = (l.length - (k + 1)) + 1 := by omega
  rw [e, List.replicate_succ]
  have e2 : k - (List.map Sn.name (List.take k l)).length = 0 := by simp; omega
  rw [e2]; rfl
theorem strs_set (l : List ByteArray) (k : Nat) (s : ByteArray) : (strs l).set k (.string s) = strs (l.set k s) := by unfold strs; rw [List.map_set]
theorem run_make_strs (w : World) (n : Nat) (hn : n ≤ 1000000) : ∃ w', (Instr.makeSlice 57 (.int .i64 (n : Int)) (.int .i64 (n : Int))).run Try.prog w = .ok (.slice (some ⟨w.heap.size, 0, none⟩) n n) w' ∧ w'.ownsRow w.heap.size 9 1 (.slice (some ⟨w.heap.size, 0, none⟩) n n) n (strs (List.replicate n ⟨#[]⟩)) ∧ Below w.heap.size w w' := by
  obtain ⟨i0, hi, hz0, hz1, hz2⟩ := info_parts infoStr
  obtain ⟨w', hr, ho, hg⟩ := run_makeSlice_full (P := Try.prog) w w.heap.size 57 9 i0 (.string ⟨#[]⟩) 1 Try.underlying57 hi hz0 hz1 .i64 .i64 n (by omega) (by rw [hz2]; omega) (by unfold maxLen; omega) (Nat.le_refl _)
  refine ⟨w', hr, ?_, below_of_grown hg⟩
  have e : (madeCells (Value.string ⟨#[]⟩).cells (n * 1)).toList = strs (List.replicate n ⟨#[]⟩) := by
    unfold strs
    rw [List.map_replicate]
    apply List.ext_getElem
    · simp [madeCells]
    · intro i h1 h2
      simp [madeCells, Value.cells, Nat.mod_one]
  rw [← e]; exact ho
theorem own_blkS {w : World} {base g n : Nat} {l : List ByteArray} (h : w.ownsRow base 9 1 (.slice (some ⟨g, 0, none⟩) n n) n (strs l)) : Blk w g 9 (strs l) := by
  rcases h.2 with ⟨e, _⟩ | ⟨g', cap, cur, e, _, hh, _, _, hs, ht⟩
  · cases e
  · injection e with e1 e2 e3
    injection e1 with e1
    injection e1 with e1
    subst e1; subst e3
    unfold Blk
    rw [hh, ← ht]
    congr 2
    apply Array.toList_inj.1
    exact (List.take_of_length_le (by rw [Array.length_toList, hs]; exact Nat.le_refl _)).symm
theorem blk_strs {w : World} {g n : Nat} {l : List ByteArray} (h : Blk w g 9 (strs l)) (hn : n = l.length) (hf : l.length ≤ 140737488355328) : Strs w (.slice (some ⟨g, 0, none⟩) n n) l :=
  ⟨hf, .inr ⟨_, n, by rw [hn], by omega, fun j s hj => by rw [Addr.add_lit, Nat.zero_add]; exact h.cell j _ (by unfold strs; rw [List.getElem?_map, hj]; rfl)⟩⟩
theorem wpList_put1S {P : Program} {ops : Array Oper} {rest : List Oper} {o : Oper} {a : Act} {w : World} {Q : Exit → Act → World → Prop} (hgd : o.guard = none) (ty : TypeId) (p x : Operand) (ho : o.op = .store ty p x) (b k : Nat) (u : Value) (hp : a.eval p = .pointer (some ⟨b, k, none⟩)) (hx : a.eval x = u) (t : TypeId) (cs : List Value) (hb : Blk w b t cs) (hk : k < cs.length)
    (hz : (P.info? ty).map (·.size) = some 1) (hc : u.cells = #[u]) (h1 : u.oneCell' = true) (h : ∀ w', Blk w' b t (cs.set k u) → w.grownBy w' (some b) → wpList P ops Q rest (a.put o.dst undef) w') : wpList P ops Q (o :: rest) a w := by
  refine wpList_plain hgd fun _ hK => ?_
  have hr := run_store_one (P := P) w b k ty u hc (there_part hb k 1 (by omega)) hz h1
  unfold Oper.wp execOp
  simp only [ho, hp, hx, Sem.run_bind, hr, Result.andThen_ok, Sem.run_pure]
  exact hK _ _ (h _ (hb.set k u) (grownBy_cell w b k u))
theorem infoStrS : (Try.prog.info? 9).map (·.size) = some 1 := by kernel_rfl
theorem wpList_make_strs {ops : Array Oper} {rest : List Oper} {o : Oper} {a : Act} {w : World} {Q : Exit → Act → World → Prop} (hgd : o.guard = none) (x y : Operand) (ho : o.op = .makeSlice 57 x y) (n : Nat) (hn : n ≤ 1000000) (hx : a.eval x = .int .i64 (n : Int)) (hy : a.eval y = .int .i64 (n : Int))
    (h : ∀ w', w'.ownsRow w.heap.size 9 1 (.slice (some ⟨w.heap.size, 0, none⟩) n n) n (strs (List.replicate n ⟨#[]⟩)) → Below w.heap.size w w' → wpList Try.prog ops Q rest (a.put o.dst (.slice (some ⟨w.heap.size, 0, none⟩) n n)) w') : wpList Try.prog ops Q (o :: rest) a w := by
  refine wpList_plain hgd fun K hK => ?_
  obtain ⟨w', hr, hown, hb⟩ := run_make_strs w n hn
  unfold Oper.wp
  simp only [execOp, ho, hx, hy, Sem.run_bind, hr, Result.andThen_ok, Sem.run_pure, Oper.upon_value]
  exact hK _ _ (h w' hown hb)
set_option maxRecDepth 100000 in
set_option maxHeartbeats 2000000 in
theorem pnames_any (c : Ct) (hc : CT.Ok c) (v : Value) (w : World) (hv : RdT 34 w v c.snaps.length (sncs c.snaps)) (hn1 : c.snaps.length ≤ 1000000) :
    Calls Try.prog 33 #[.agg (ctc c v).toArray] w fun e w' => ∃ u, e = .returned u ∧ Strs w' u (c.snaps.map Sn.name) ∧ Below w.heap.size w w' := by
  obtain ⟨ra, rq, rfl, -⟩ := hv.shape
  obtain ⟨L, hL⟩ : ∃ L, L = ctc c (.slice ra c.snaps.length rq) := ⟨_, rfl⟩
  have X1 := Lib.hid (Blk.new w 29 L _ rfl)
  have W1 := Lib.hid ((Below.refl w.heap.size w).alloc (Nat.le_refl _) (.cells L.toArray 29))
  have C1 := Lib.hid (show L[33]? = some (.slice ra c.snaps.length rq) by rw [hL]; exact ctc_snaps hc.top _)
  have c1 := X1.out.cell 33 _ C1.out
  have HV := Lib.hid (fun W (h : Below w.heap.size w W) => hv.below h)
  have HL := Lib.hid hc.snaps
  rw [← hL]
  obtain ⟨l, hl⟩ : ∃ x, x = c.snaps := ⟨_, rfl⟩
  rw [← hl] at HV HL c1 C1 hn1 ⊢
  obtain ⟨n, hn⟩ : ∃ n, n = l.length := ⟨_, rfl⟩
  rw [← hn] at HV c1 C1 hn1
  have HN := Lib.hid hn
  have HS := Lib.hid (fun k (hk : k < l.length) => namesTo_set l hk)
  have HLN := Lib.hid (fun k (hk : k ≤ l.length) => namesTo_len l hk)
  have H0 := Lib.hid (namesTo_zero l)
  have HA := Lib.hid (namesTo_all l)
  rw [← hn] at H0 HA
  clear hL hl hn hv hc
  go_enter Try.func33, Try.ntmps33
  go_wp2_with ((fail_if_success (with_reducible show bodyPost _ _ _ _ _ _)); first
    | ((with_reducible show wpList _ _ _ (Oper.mk _ (.makeSlice _ _ _) _ _ _ _ :: _) _ _); refine wpList_make_strs rfl (.tmp 8) (.tmp 8) rfl n hn1 rfl rfl ?_; intro w2 o2 b2; have O2 := Lib.hid o2; have W2 := Lib.hid (W1.out.on b2); have c2 := (X1.out.below b2 X1.out.lt).cell 33 _ C1.out; clear o2 b2 c1))
  have hsz : (w.alloc (.cells L.toArray 29)).heap.size = w.heap.size + 1 := by simp
  rw [hsz] at O2
  have B2 := Lib.hid (own_blkS O2.out)
  clear hsz O2
  obtain ⟨g, hg⟩ : ∃ g, g = w.heap.size + 1 := ⟨_, rfl⟩
  have HG := Lib.hid (show w.heap.size ≤ g by omega)
  try rw [← hg]
  rw [← hg] at B2
  clear c2 hg
  go_loopw [13] (fun i wr => ∃ k : Nat, k ≤ n ∧ i = .int .i64 (k : Int) ∧ Below w.heap.size w wr ∧ Blk wr g 9 (strs (namesTo l k))) (fun i _ => n - (intOf i).toNat)
  case atStart => exact ⟨0, Nat.zero_le _, rfl, W2.out, by rw [H0.out]; exact B2.out⟩
  case round =>
    obtain ⟨k, hk, rfl, hw, ho⟩ := hrel
    have W5 := Lib.hid hw
    have N5 := Lib.hid ho
    clear hw ho B2 W2
    by_cases hlt : k < n
    · have hkp : k < l.length := by rw [← HN.out]; exact hlt
      have hklt : (k : Int) < (n : Int) := by omega
      have hk0 : (0 : Int) ≤ (k : Int) := by omega
      obtain ⟨pb, po, rfl, hpc, -, -⟩ := sn_range (HV.out wr W5.out) HL.out HN.out hkp
      have PC := Lib.hid hpc
      have PL := Lib.hid (snc_len (HL.out _ (List.getElem_mem hkp)))
      have PO := Lib.hid (show (snc l[k]).toArray.all (·.oneCell') = true by rw [List.all_toArray, List.all_eq_true]; exact snc_one' _)
      have HSN := Lib.hid (fun (b : Nat) (X : World) (M : List Value) (h : Blk X b 60 M) (q : M = snc l[k]) => sn_name h q)
      have HST := Lib.hid (show (strs (namesTo l k)).set k (.string l[k].name) = strs (namesTo l (k + 1)) by rw [strs_set, HS.out k hkp])
      have HSL := Lib.hid (show (strs (namesTo l k)).length = n by unfold strs; rw [List.length_map, HLN.out k (by omega), ← HN.out])
      obtain ⟨nk, hnk⟩ : ∃ x, x = l[k].name := ⟨_, rfl⟩
      rw [← hnk] at HSN HST
      obtain ⟨Sk, hSk⟩ : ∃ x, x = snc l[k] := ⟨_, rfl⟩
      rw [← hSk] at PC PL PO HSN
      obtain ⟨TK, hTK⟩ : ∃ x, x = strs (namesTo l k) := ⟨_, rfl⟩
      rw [← hTK] at HST HSL N5
      have X5 := Lib.hid (Blk.new wr 60 zsn _ rfl)
      have B5 := Lib.hid ((Below.refl wr.heap.size wr).alloc (Nat.le_refl _) (.cells zsn.toArray 60))
      have Z34 := Lib.hid (show zsn.length = 34 by decide)
      have hz : ∀ w, (zeroValue 60).run Try.prog w = .ok (.agg zsn.toArray) w := zeroSn
      obtain ⟨Zs, hZs⟩ : ∃ x, x = zsn := ⟨_, rfl⟩
      rw [← hZs] at X5 B5 Z34 hz
      clear hpc hnk hSk hZs hTK
      go_wp2_with ((fail_if_success (with_reducible show bodyPost _ _ _ _ _ _)); first
        | (refine wpList_load_mid rfl 60 (.tmp 16) rfl pb (po + k * 34) rfl Sk _ PC.out Try.underlying60 rfl (by rw [PL.out]; exact infoSnC) ?_)
        | ((with_reducible show wpList _ _ _ (Oper.mk _ (.store _ (.tmp 5) (.tmp 17)) _ _ _ _ :: _) _ _); refine wpList_store_blk rfl 60 (.tmp 5) (.tmp 17) rfl wr.heap.size 0 Sk rfl rfl 60 Zs X5.out (by rw [PL.out, Z34.out]; exact Nat.le_refl _) (by rw [PL.out]; exact infoSnC) PO.out ?_; intro w6 b6 g6; rw [splice_all _ _ (by rw [PL.out, Z34.out])] at b6; have B6 := Lib.hid (B5.out.grown g6 B5.out.size (fun g hg => Nat.le_of_eq (Option.some.inj hg))); have N6 := Lib.hid (N5.out.below B6.out N5.out.lt); have W6 := Lib.hid (W5.out.on B6.out); have d0 := HSN.out wr.heap.size w6 Sk b6 rfl; clear b6 g6)
        | ((with_reducible show wpList _ _ _ (Oper.mk _ (.store _ (.tmp 22) (.tmp 21)) _ _ _ _ :: _) _ _); refine wpList_put1S rfl 9 (.tmp 22) (.tmp 21) rfl g k (.string nk) rfl rfl 9 TK N6.out (by rw [HSL.out]; exact hlt) infoStrS rfl rfl ?_; intro w7 b7 g7; rw [HST.out] at b7; have N7 := Lib.hid b7; have W7 := Lib.hid (W6.out.grown g7 W6.out.size (fun x hx => by have := Option.some.inj hx; have := HG.out; omega)); clear b7 g7))
      exact ⟨⟨k + 1, by omega, by go_num, W7.out, N7.out⟩, by simp [intOf]; omega⟩
    · obtain rfl : k = n := by omega
      have hkk : ¬ (k : Int) < (k : Int) := by omega
      have hb := N5.out
      rw [HA.out] at hb
      have NF := Lib.hid (blk_strs hb (n := k) (by rw [List.length_map]; exact HN.out) (by rw [List.length_map, ← HN.out]; omega))
      clear hb
      go_wp2_with fail
      go_ret
      exact ⟨_, rfl, NF.out, W5.out⟩
end Go.Proofs.Ytkagapgganoomaa
