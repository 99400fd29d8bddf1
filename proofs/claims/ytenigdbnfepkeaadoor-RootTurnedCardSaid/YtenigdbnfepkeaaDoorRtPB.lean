/- Texts of one subject in one file: RtPRdA, RtPRead. Own work. -/
import Derived.Test.YtenigdbnfepkeaaDoorRtDocB
import Derived.Test.YtenigdbnfepkeaaDoorRtRows
import Derived.Test.YtenigdbnfepkeaaDoorFillX
import Derived.Test.YtenigdbnfepkeaaDoorRdrX
import Derived.Test.YtenigdbnfepkeaaDoorSlZ
import Derived.Test.YtenigdbnfepkeaaDoorEqX
import Derived.Test.YtenigdbnfepkeaaDoorFactX
/- The closures by which the program reads a sum and a ref: contracts. Written by gen_rtpread.py. Own work. -/
namespace Go.Proofs.YtenigdbnfepkeaaDoor
open Go.ChangeShapes Go.WideShapes Go.ChangeAt Go.RowKit
open RT
theorem rp_ok {l : List Nat} {n : Nat} (h : n ≤ l.length) : rpGot l 0 (n : Int) = l.take n ∧ rpLeft l 0 (n : Int) = l.drop n ∧ rpErr l 0 (n : Int) = 0 := by
  have e : lookP (n : Int) l.length = 0 := by unfold lookP; rw [if_neg (by omega), if_neg (by omega)]
  unfold rpGot rpLeft rpErr
  rw [if_pos ⟨rfl, e⟩, if_pos ⟨rfl, e⟩, if_pos rfl, e]
  simp
section
variable {N : Nat → Prop} {w : World} {rb : Nat} {l : List Nat}
theorem u8_rd (h : Rdr N w rb l 0) (hl : 1 ≤ l.length) : Calls Tryd.prog 49 #[.pointer (some ⟨rb, 0, none⟩)] w fun ev w' => ev = .returned (.int .u8 (num (l.take 1) : Nat)) ∧ Rdr N w' rb (l.drop 1) 0 ∧ w.grownBy w' (some rb) := by
  have hp := u8_any w rb l 0 h
  obtain ⟨a, b, c⟩ := rp_ok (n := 1) hl
  rw [show ((1 : Nat) : Int) = 1 from rfl] at a b c
  rw [a, b, c] at hp
  exact hp
theorem u16_rd (h : Rdr N w rb l 0) (hl : 2 ≤ l.length) : Calls Tryd.prog 50 #[.pointer (some ⟨rb, 0, none⟩)] w fun ev w' => ev = .returned (.int .u16 (num (l.take 2) : Nat)) ∧ Rdr N w' rb (l.drop 2) 0 ∧ w.grownBy w' (some rb) := by
  have hp := u16_any w rb l 0 h
  obtain ⟨a, b, c⟩ := rp_ok (n := 2) hl
  rw [show ((2 : Nat) : Int) = 2 from rfl] at a b c
  rw [a, b, c] at hp
  exact hp
theorem u32_rd (h : Rdr N w rb l 0) (hl : 4 ≤ l.length) : Calls Tryd.prog 47 #[.pointer (some ⟨rb, 0, none⟩)] w fun ev w' => ev = .returned (.int .u32 (num (l.take 4) : Nat)) ∧ Rdr N w' rb (l.drop 4) 0 ∧ w.grownBy w' (some rb) := by
  have hp := u32_any w rb l 0 h
  obtain ⟨a, b, c⟩ := rp_ok (n := 4) hl
  rw [show ((4 : Nat) : Int) = 4 from rfl] at a b c
  rw [a, b, c] at hp
  exact hp
theorem u64_rd (h : Rdr N w rb l 0) (hl : 8 ≤ l.length) : Calls Tryd.prog 48 #[.pointer (some ⟨rb, 0, none⟩)] w fun ev w' => ev = .returned (.int .u64 (num (l.take 8) : Nat)) ∧ Rdr N w' rb (l.drop 8) 0 ∧ w.grownBy w' (some rb) := by
  have hp := u64_any w rb l 0 h
  obtain ⟨a, b, c⟩ := rp_ok (n := 8) hl
  rw [show ((8 : Nat) : Int) = 8 from rfl] at a b c
  rw [a, b, c] at hp
  exact hp
theorem take_rd (h : Rdr N w rb l 0) (n : Nat) (hn : n ≤ l.length) (m : Int) (hm : m = (n : Int)) : Calls Tryd.prog 45 #[.pointer (some ⟨rb, 0, none⟩), .int .i64 m] w fun ev w' => ∃ v, ev = .returned v ∧ Own w' w.heap.size v (l.take n) ∧ Rdr N w' rb (l.drop n) 0 ∧ w.grownBy w' (some rb) := by
  subst hm
  have hp := take_any w rb l 0 (n : Int) h
  obtain ⟨a, b, c⟩ := rp_ok hn
  rw [a, b, c] at hp
  exact hp
end
theorem only_past {a b c : World} {r : Nat} {row : Option Nat} (h : a.grownBy b (some r)) (k : b.grownBy c row) (hr : ∀ g, row = some g → a.heap.size ≤ g) : a.grownBy c (some r) :=
  ⟨k.os.trans h.os, k.tape.trans h.tape, k.output.trans h.output, Nat.le_trans h.size k.size, fun i hi hne => (k.block i (Nat.lt_of_lt_of_le hi h.size) (fun q => by have := hr i q.symm; omega)).trans (h.block i hi hne)⟩
theorem Rdr.past {N : Nat → Prop} {w w' : World} {rb : Nat} {l : List Nat} (h : Rdr N w rb l 0) {row : Option Nat} (g : w.grownBy w' row) (hb : row ≠ some rb) (hN : ∀ g, N g → row ≠ some g) : Rdr N w' rb l 0 := by
  obtain ⟨sv, h1, h2, h3⟩ := h
  exact ⟨sv, h1.grown g (fun e => hb e.symm), h2.grown g (by
    cases e : sv.ownBlock with
    | none => exact .inl rfl
    | some q => exact .inr (fun x => hN q (h3.2 q e) x.symm)), h3⟩
theorem wpList_s2aR {P : Program} {ops : Array Oper} {rest : List Oper} {o : Oper} {a : Act} {w : World} {Q : Exit → Act → World → Prop} (hgd : o.guard = none) {ty : TypeId} {x : Operand} (ho : o.op = .sliceToArrayPointer ty x) {m : Nat} {e : TypeId} (hu : P.underlying ty = some (.array m e)) {p : Option Addr} {n c : Nat} (hx : a.eval x = .slice p n c) (hn : m ≤ n)
    (h : wpList P ops Q rest (a.put o.dst (.pointer p)) w) : wpList P ops Q (o :: rest) a w := by
  refine wpList_plain hgd fun _ hK => ?_
  have hq : ¬ n < m := by omega
  have e : (execOp a.eval o).run P w = .ok (.value (.pointer p)) w := by
    unfold execOp
    rw [ho]
    simp only [hx]
    simp [Instr.arrayAt, run_underlying hu, hq, go_sem]
  unfold Oper.wp
  rw [e]
  exact hK _ _ h
theorem own_range {w : World} {base b n cap : Nat} {l : List Nat} (h : Own w base (.slice (some ⟨b, 0, none⟩) n cap) l) : w.rangeAt b 0 (row8 l) := fun j v hv => by
  have hj : j < l.length := by
    rcases Nat.lt_or_ge j l.length with h | h
    · exact h
    · rw [List.getElem?_eq_none (by rw [row8_len]; exact h)] at hv; cases hv
  have hl : n = l.length := by obtain ⟨_, _, e, _⟩ := h.rd.shape; injection e
  have hc := h.cell hl j hj
  rw [row8_val l j hj] at hv
  rw [Nat.zero_add, ← hv]; exact hc
theorem zeroSumP (w : World) : (zeroValue 24).run Tryd.prog w = .ok (.agg (row8 (List.replicate 32 0)).toArray) w := by kernel_rfl
theorem infoSumP : (Tryd.prog.info? 24).map (·.size) = some 32 := by kernel_rfl
set_option maxRecDepth 100000 in
set_option maxHeartbeats 1000000 in
/-- A sum is read. -/
theorem rdsum_any {N : Nat → Prop} (w : World) (rb lb : Nat) (l : List Nat) (hR : Rdr N w rb l 0) (hL : Blk w lb 85 [.pointer (some ⟨rb, 0, none⟩)]) (hl : 32 ≤ l.length) (hN : ∀ g, N g → g < w.heap.size) :
    Calls Tryd.prog 44 #[.pointer (some ⟨lb, 0, none⟩)] w fun e w' => e = .returned (.agg (row8 (l.take 32)).toArray) ∧ Rdr N w' rb (l.drop 32) 0 ∧ w.grownBy w' (some rb) := by
  have hz := zeroSumP
  obtain ⟨Z, hZ⟩ : ∃ Z, Z = row8 (List.replicate 32 0) := ⟨_, rfl⟩
  rw [← hZ] at hz
  have ZL := Lib.hid (show Z.length = 32 by rw [hZ, row8_len]; simp)
  have bw := (Below.refl w.heap.size w).alloc (Nat.le_refl _) (.cells Z.toArray 24)
  obtain ⟨w1, hw1⟩ : ∃ x, x = w.alloc (.cells Z.toArray 24) := ⟨_, rfl⟩
  have W1 := Lib.hid (show Below w.heap.size w w1 by rw [hw1]; exact bw)
  have Z1 := Lib.hid (show Blk w1 w.heap.size 24 Z by rw [hw1]; exact Blk.new w _ _ _ rfl)
  have K1 := hR.below W1.out
  have c0 := (hL.below W1.out hL.lt).cell 0 _ rfl
  have RL := Lib.hid hR.lt
  have HN := Lib.hid hN
  have TK := Lib.hid (take_rd K1 32 hl 32 rfl)
  have BM := Lib.hid (show Bytes 32 (l.take 32) from ⟨by rw [List.length_take]; omega, fun k => gb_take_byte _ _ hR.byte k⟩)
  obtain ⟨m, hm⟩ : ∃ m, m = l.take 32 := ⟨_, rfl⟩
  rw [← hm] at TK BM ⊢
  clear hZ bw hR hL K1 hN hm
  go_enter Tryd.func44, Tryd.ntmps44
  go_upto_region 1 with (fail)
  rw [← hw1]
  clear hw1
  go_wp2_with (first
    | (go_at_call 45; (with_reducible refine TK.out.mono ?_); rintro e w2 ⟨v, rfl, o2, k2, g2⟩; obtain ⟨va, vc, rfl, _⟩ := o2.rd.shape; obtain ⟨vb, rfl⟩ := own_at o2 (by rw [BM.out.1]; decide); have O2 := Lib.hid (own_range o2); have K2 := Lib.hid k2; have G2 := Lib.hid (only_trans (grown_of_below W1.out _) g2); have Z2 := Lib.hid (Z1.out.grown g2 (fun e => by have := RL.out; have := Option.some.inj e; omega)); have S2 := Lib.hid G2.out.size; rw [BM.out.1]; clear o2 k2 g2 c0)
    | (refine wpList_s2aR rfl rfl Tryd.underlying24 rfl (Nat.le_refl _) ?_)
    | (refine wpList_load_mid rfl 24 (.tmp 4) rfl vb 0 rfl (row8 m) _ O2.out Tryd.underlying24 rfl (by rw [row8_len, BM.out.1]; exact infoSumP) ?_)
    | (refine wpList_store_blk rfl 24 (.tmp 1) (.tmp 5) rfl w.heap.size 0 (row8 m) rfl rfl 24 Z Z2.out (by have := BM.out.1; have := ZL.out; rw [row8_len]; omega) (by rw [row8_len, BM.out.1]; exact infoSumP) (row8_one _) ?_; intro w3 b3 g3; rw [splice_all _ _ (by have := BM.out.1; have := ZL.out; rw [row8_len]; omega)] at b3; have Z3 := Lib.hid b3; have K3 := Lib.hid (K2.out.past g3 (fun e => by have := RL.out; have := Option.some.inj e; omega) (fun g hg e => by have := HN.out g hg; have := Option.some.inj e; omega)); have G3 := Lib.hid (only_past G2.out g3 (fun g e => by have := Option.some.inj e; omega)); clear b3 g3))
  exact bodyPost_ret (v := .agg (row8 m).toArray) (results_mid rfl _ _ w.heap.size (row8 m) _ rfl Z3.out.range Tryd.underlying24 rfl (by rw [row8_len, BM.out.1]; exact infoSumP)) rfl ⟨rfl, K3.out, G3.out⟩
/-- What stands while a ref is read: the reader, the variables that hold it and the closure, the ref that is told. -/
structure RJ (N : Nat → Prop) (W : World) (rb lb sb : Nat) (D : List Value) (l : List Nat) (w : World) : Prop where
  rdr : Rdr N w rb l 0
  lbk : Blk w lb 85 [.pointer (some ⟨rb, 0, none⟩)]
  sbk : Blk w sb 76 [.func (.func 44) #[] #[.pointer (some ⟨lb, 0, none⟩)]]
  res : Blk w W.heap.size 45 D
  grow : W.grownBy w (some rb)
  h1 : rb < lb
  h2 : lb < sb
  h3 : sb < W.heap.size
  hN : ∀ g, N g → g < W.heap.size
section
variable {N : Nat → Prop} {W w w' : World} {rb lb sb : Nat} {D D' : List Value} {l l' : List Nat}
theorem RJ.read (h : RJ N W rb lb sb D l w) (r : Rdr N w' rb l' 0) (g : w.grownBy w' (some rb)) : RJ N W rb lb sb D l' w' :=
  have := h.h1; have := h.h2; have := h.h3
  ⟨r, h.lbk.grown g (fun e => by have := Option.some.inj e; omega), h.sbk.grown g (fun e => by have := Option.some.inj e; omega), h.res.grown g (fun e => by have := Option.some.inj e; omega), only_trans h.grow g, h.h1, h.h2, h.h3, h.hN⟩
theorem RJ.put (h : RJ N W rb lb sb D l w) (b : Blk w' W.heap.size 45 D') (g : w.grownBy w' (some W.heap.size)) : RJ N W rb lb sb D' l w' :=
  have := h.h1; have := h.h2; have := h.h3
  ⟨h.rdr.past g (fun e => by have := Option.some.inj e; omega) (fun q hq e => by have := h.hN q hq; have := Option.some.inj e; omega), h.lbk.grown g (fun e => by have := Option.some.inj e; omega), h.sbk.grown g (fun e => by have := Option.some.inj e; omega), b, only_past h.grow g (fun q e => by have := Option.some.inj e; omega), h.h1, h.h2, h.h3, h.hN⟩
theorem RJ.drew (h : RJ N W rb lb sb D l w) : RJ N W rb lb sb D l w.drew := ⟨h.rdr.drew, h.lbk.drew, h.sbk.drew, h.res.drew, only_trans h.grow (grown_of_below (Below.refl _ _).drew _), h.h1, h.h2, h.h3, h.hN⟩
theorem RJ.u32 (h : RJ N W rb lb sb D l w) (hl : 4 ≤ l.length) : Calls Tryd.prog 47 #[.pointer (some ⟨rb, 0, none⟩)] w fun e w' => ∃ v, e = .returned v ∧ v = .int .u32 (num (l.take 4) : Nat) ∧ RJ N W rb lb sb D (l.drop 4) w' :=
  (u32_rd h.rdr hl).mono fun _ _ ⟨h1, h3, h4⟩ => ⟨_, h1, rfl, h.read h3 h4⟩
theorem RJ.sum (h : RJ N W rb lb sb D l w) (hl : 32 ≤ l.length) : Calls Tryd.prog 44 #[.pointer (some ⟨lb, 0, none⟩)] w fun e w' => ∃ v, e = .returned v ∧ v = .agg (row8 (l.take 32)).toArray ∧ RJ N W rb lb sb D (l.drop 32) w' :=
  (rdsum_any w rb lb l h.rdr h.lbk hl (fun g hg => Nat.lt_of_lt_of_le (h.hN g hg) h.grow.size)).mono fun _ _ ⟨h1, h3, h4⟩ => ⟨_, h1, rfl, h.read h3 h4⟩
def RA (N : Nat → Prop) (W : World) (rb lb sb : Nat) (D D' : List Value) (l0 l1 l2 : List Nat) : Nat → Told → World → Prop
  | 0, _, w => RJ N W rb lb sb D l0 w
  | 1, _, w => RJ N W rb lb sb D l1 w
  | 2, _, w => RJ N W rb lb sb D l2 w
  | _, _, w => RJ N W rb lb sb D' l2 w
end
def pgOf (l : List Nat) : Pg := ⟨num (l.take 4), (l.drop 4).take 32⟩
theorem pgOf_ok {l : List Nat} (hb : ∀ k, gb l k < 256) (h : 36 ≤ l.length) : Pok (pgOf l) :=
  ⟨num_le _ (fun k => gb_take_byte _ _ hb k) 4 (by rw [List.length_take]; omega), by show ((l.drop 4).take 32).length = 32; rw [List.length_take, List.length_drop]; omega, fun k => gb_take_byte _ _ (fun j => by rw [gb_drop]; exact hb _) k⟩
theorem page_splice (n : Int) {K : List Nat} (hK : Bytes 32 K) : splice (splice zref 0 [.int .u32 n]) 1 (row8 K) = .int .u32 n :: row8 K := by
  have e : (row8 K).length = 32 := by rw [row8_len]; exact hK.1
  have e2 : (row8 (List.replicate 32 0)).length = 32 := by rw [row8_len, List.length_replicate]
  unfold splice zref
  rw [e]
  show [Value.int .u32 n] ++ (row8 K ++ List.drop 32 (row8 (List.replicate 32 0))) = _
  rw [List.drop_of_length_le (by rw [e2]; exact Nat.le_refl _), List.append_nil]
  rfl
theorem built_ref (n : Int) {K : List Nat} (hK : Bytes 32 K) : Tryd.prog.built 45 [(0, .int .u32 n), (1, .agg (row8 K).toArray)] = some (.int .u32 n :: row8 K).toArray := by
  have e : Tryd.prog.built 45 [(0, .int .u32 n), (1, .agg (row8 K).toArray)] = Instr.fill (#[(0, 1), (1, 32)][·]?) zref.toArray [(0, .int .u32 n), (1, .agg (row8 K).toArray)] := by kernel_rfl
  rw [e, fill_step _ 0 0 1 rfl (.int .u32 n) [.int .u32 n] rfl rfl zref (by rw [zref_len]; decide), fill_step _ 1 1 32 rfl (.agg (row8 K).toArray) (row8 K) rfl (by rw [row8_len, hK.1]) _ (by rw [length_splice _ _ _ (by rw [zref_len]; exact (show 0 + 1 ≤ 33 by decide)), zref_len]; exact (show 1 + 32 ≤ 33 by decide)), fill_nil]
  rw [page_splice n hK]
theorem one_ref (p : Pg) : ((pc p).toArray.all (·.oneCell')) = true := by
  rw [List.all_toArray, List.all_eq_true]
  intro u hu
  exact pcs_one' [p] u (by rw [pcs_one]; exact hu)
set_option maxRecDepth 100000 in
set_option maxHeartbeats 2000000 in
/-- A ref is read. -/
theorem rdref_any {N : Nat → Prop} (w : World) (rb lb sb : Nat) (l : List Nat) (hR : Rdr N w rb l 0) (hL : Blk w lb 85 [.pointer (some ⟨rb, 0, none⟩)]) (hS : Blk w sb 76 [.func (.func 44) #[] #[.pointer (some ⟨lb, 0, none⟩)]]) (hl : 36 ≤ l.length) (hN : ∀ g, N g → g < w.heap.size) (hrl : rb < lb) (hls : lb < sb) :
    Calls Tryd.prog 46 #[.pointer (some ⟨lb, 0, none⟩), .pointer (some ⟨sb, 0, none⟩)] w fun e w' => e = .returned (.agg (pc (pgOf l)).toArray) ∧ Rdr N w' rb (l.drop 36) 0 ∧ w.grownBy w' (some rb) := by
  have hz := zeroRef
  have hby := hR.byte
  have hok := pgOf_ok hby hl
  obtain ⟨D1, hD1⟩ : ∃ Z, Z = zref := ⟨_, rfl⟩
  rw [← hD1] at hz
  have D33 := Lib.hid (show D1.length = 33 by rw [hD1]; exact zref_len)
  have bw := (Below.refl w.heap.size w).alloc (Nat.le_refl _) (.cells D1.toArray 45)
  obtain ⟨w1, hw1⟩ : ∃ x, x = w.alloc (.cells D1.toArray 45) := ⟨_, rfl⟩
  rw [← hw1] at bw
  have HRJ := Lib.hid (show RJ N w rb lb sb D1 l w1 from ⟨hR.below bw, hL.below bw hL.lt, hS.below bw hS.lt, by rw [hw1]; exact Blk.new w _ _ _ rfl, grown_of_below bw _, hrl, hls, hS.lt, hN⟩)
  have HU := Lib.hid (fun W (h : RJ N w rb lb sb D1 l W) => h.u32 (by omega))
  have HS := Lib.hid (fun W (h : RJ N w rb lb sb D1 (l.drop 4) W) => h.sum (by rw [List.length_drop]; omega))
  have ed : (l.drop 4).drop 32 = l.drop 36 := by rw [List.drop_drop]
  rw [ed] at HS
  obtain ⟨AT, hAT⟩ : ∃ n, n = num (l.take 4) := ⟨_, rfl⟩
  obtain ⟨SS, hSS⟩ : ∃ n, n = (l.drop 4).take 32 := ⟨_, rfl⟩
  obtain ⟨PG, hPG⟩ : ∃ n, n = pc (pgOf l) := ⟨_, rfl⟩
  have hpe : PG = .int .u32 (AT : Int) :: row8 SS := by rw [hPG, hAT, hSS]; rfl
  have PGL := Lib.hid (show PG.length = 33 by rw [hPG]; exact pc_len hok)
  have PG1 := Lib.hid (show (PG.toArray.all (·.oneCell')) = true by rw [hPG]; exact one_ref _)
  have HBU := Lib.hid (show Tryd.prog.built 45 [(0, .int .u32 (AT : Int)), (1, .agg (row8 SS).toArray)] = some PG.toArray by rw [hpe]; exact built_ref _ (by rw [hSS]; exact hok.2))
  rw [← hAT] at HU
  rw [← hSS] at HS
  obtain ⟨l1, hl1⟩ : ∃ x, x = l.drop 4 := ⟨_, rfl⟩
  obtain ⟨l2, hl2⟩ : ∃ x, x = l.drop 36 := ⟨_, rfl⟩
  rw [← hl1] at HU HS
  rw [← hl2] at HS ⊢
  rw [← hPG]
  clear hD1 bw hR hL hS hN hby hok hl ed hAT hSS hPG hpe hl1 hl2 hrl hls
  go_enter Tryd.func46, Tryd.ntmps46
  go_upto_region 1 with (fail)
  rw [← hw1]
  clear hw1 hz
  refine wp_region_z (by kernel_rfl) [1, 3, 5] (by kernel_rfl) (by kernel_rfl) (Stg [1, 3, 5] (RA N w rb lb sb D1 PG l l1 l2)) [.pre (.pointer (some ⟨rb, 0, none⟩)), .pre (.int .u32 (AT : Int)), .pre (.func (.func 44) #[] #[.pointer (some ⟨lb, 0, none⟩)]), .pre (.agg (row8 SS).toArray), .pre (.agg PG.toArray), .any] (fun i hi hq => by
        simp only [List.mem_cons, List.mem_nil_iff, or_false] at hi
        rcases hi with rfl | rfl | rfl
        · exact absurd hq (by decide +kernel)
        · exact absurd hq (by decide +kernel)
        · rfl) (Stg.zero (show RJ N w rb lb sb D1 l _ from HRJ.out.drew)) ?_ ?_
  · refine ⟨?_, ?_, ?_, ?_, ?_, ?_, trivial⟩
    · intro a w5 r hF hI hns hri h1 h2 hd
      have e0 : a.eval (.tmp 0) = .pointer (some ⟨lb, 0, none⟩) := hF 0 (by decide +kernel)
      obtain ⟨l9, hA⟩ : ∃ l9, RJ N w rb lb sb D1 l9 w5 := by
        obtain ⟨k, hk1, hk2, hA⟩ : ∃ k, 0 ≤ k ∧ k ≤ 0 ∧ (RA N w rb lb sb D1 PG l l1 l2) k r w5 := hI.between 0 0 (.inl rfl) (.inr ⟨by decide, h1 1 (by decide) (by decide +kernel)⟩)
        obtain rfl : k = 0 := by omega
        exact ⟨_, hA⟩
      have c0 := hA.lbk.cell 0 _ rfl
      exact doesZ_read (v := .pointer (some ⟨rb, 0, none⟩)) (by decide) rfl (by unfold execOp; simp only [e0]; go_simp) hI rfl
    · intro a w5 r hF hI hns hri h1 h2 hd
      have e3 : a.eval (.tmp 3) = .pointer (some ⟨rb, 0, none⟩) := hd 0 (by decide +kernel)
      have hA : (RA N w rb lb sb D1 PG l l1 l2) 0 r w5 := hI.at_ 0 (.inl rfl) (.inr ⟨by decide, hri⟩)
      have hA : RJ N w rb lb sb D1 l w5 := hA
      exact doesZ_call (by decide) rfl (ex_call (vs := #[.pointer (some ⟨rb, 0, none⟩)]) rfl (by simp only [List.map_toArray, List.map_cons, List.map_nil, e3]) (by go_simp)) ((HU.out w5 hA).mono fun e w6 hh => by obtain ⟨v, he, rfl, hrs⟩ := hh; exact ⟨_, he, hI.next 0 1 _ rfl (by decide) (.inl rfl) hri (by decide) hrs, rfl⟩)
    · intro a w5 r hF hI hns hri h1 h2 hd
      have e1 : a.eval (.tmp 1) = .pointer (some ⟨sb, 0, none⟩) := hF 1 (by decide +kernel)
      obtain ⟨l9, hA⟩ : ∃ l9, RJ N w rb lb sb D1 l9 w5 := by
        obtain ⟨k, hk1, hk2, hA⟩ : ∃ k, 0 ≤ k ∧ k ≤ 1 ∧ (RA N w rb lb sb D1 PG l l1 l2) k r w5 := hI.between 0 1 (.inl rfl) (.inr ⟨by decide, h1 3 (by decide) (by decide +kernel)⟩)
        rcases (show k = 0 ∨ k = 1 by omega) with rfl | rfl
        · exact ⟨_, hA⟩
        · exact ⟨_, hA⟩
      have c0 := hA.sbk.cell 0 _ rfl
      exact doesZ_read (v := .func (.func 44) #[] #[.pointer (some ⟨lb, 0, none⟩)]) (by decide) rfl (by unfold execOp; simp only [e1]; go_simp) hI rfl
    · intro a w5 r hF hI hns hri h1 h2 hd
      have e5 : a.eval (.tmp 5) = .func (.func 44) #[] #[.pointer (some ⟨lb, 0, none⟩)] := hd 2 (by decide +kernel)
      have hA : (RA N w rb lb sb D1 PG l l1 l2) 1 r w5 := hI.at_ 1 (.inr ⟨by decide, h2 1 (by decide) (by decide +kernel)⟩) (.inr ⟨by decide, hri⟩)
      have hA : RJ N w rb lb sb D1 l1 w5 := hA
      exact doesZ_call (by decide) rfl (ex_call_clo rfl e5 (by go_simp)) ((HS.out w5 hA).mono fun e w6 hh => by obtain ⟨v, he, rfl, hrs⟩ := hh; exact ⟨_, he, hI.next 1 3 _ rfl (by decide) (.inr ⟨by decide, h2 1 (by decide) (by decide +kernel)⟩) hri (by decide) hrs, rfl⟩)
    · intro a w5 r hF hI hns hri h1 h2 hd
      have e4 : a.eval (.tmp 4) = .int .u32 (AT : Int) := hd 1 (by decide +kernel)
      have e6 : a.eval (.tmp 6) = .agg (row8 SS).toArray := hd 3 (by decide +kernel)
      exact doesZ_read (v := .agg PG.toArray) (by decide) rfl (ex_build rfl (by simp only [List.map_toArray, List.map_cons, List.map_nil, e4, e6]; exact HBU.out)) hI rfl
    · intro a w5 r hF hI hns hri h1 h2 hd
      have e2 : a.eval (.tmp 2) = .pointer (some ⟨w.heap.size, 0, none⟩) := hF 2 (by decide +kernel)
      have e7 : a.eval (.tmp 7) = .agg PG.toArray := hd 4 (by decide +kernel)
      have hA : (RA N w rb lb sb D1 PG l l1 l2) 2 r w5 := hI.at_ 2 (.inr ⟨by decide, h2 3 (by decide) (by decide +kernel)⟩) (.inr ⟨by decide, hri⟩)
      have hA : RJ N w rb lb sb D1 l2 w5 := hA
      exact doesZ_put (by decide) rfl 45 (.tmp 2) (.tmp 7) rfl w.heap.size 0 PG e2 e7 45 D1 hA.res (by have := PGL.out; have := D33.out; omega) (by rw [PGL.out]; exact infoRef33) PG1.out rfl (fun w' b' g' => by rw [splice_all _ _ (by have := PGL.out; have := D33.out; omega)] at b'; exact hI.next 2 5 _ rfl (by decide) (.inr ⟨by decide, h2 3 (by decide) (by decide +kernel)⟩) hri (by decide) (hA.put b' g'))
  · intro vs r w7 hI hS hvs
    have hz : RJ N w rb lb sb PG l2 w7 := hI.at_ 3 (.inr ⟨by decide, hS 5 (by decide)⟩) (.inl rfl)
    have HZ := Lib.hid hz
    clear hI hS hvs hz
    simp only [putOps, Act.put, List.setIfInBounds_toArray, List.set_cons_zero, List.set_cons_succ]
    generalize vs 0 = y0 at *; generalize vs 1 = y1 at *; generalize vs 2 = y2 at *; generalize vs 3 = y3 at *; generalize vs 4 = y4 at *
    go_wp2_with fail
    exact bodyPost_ret (v := .agg PG.toArray) (results_mid rfl _ _ w.heap.size PG _ rfl HZ.out.res.range Tryd.underlying45 rfl (by rw [PGL.out]; exact infoRef33)) rfl ⟨rfl, HZ.out.rdr, HZ.out.grow⟩
end Go.Proofs.YtenigdbnfepkeaaDoor
/- A root read by the program: contract. Written by gen_rtpread.py. Own work. -/
namespace Go.Proofs.YtenigdbnfepkeaaDoor
open Go.ChangeShapes Go.WideShapes Go.ChangeAt Go.RowKit
open RT
namespace RT
/-- How many pages the program reads, and what it reads. -/
def kP (b : List Nat) : Nat := min (gb b 79) 8
def readsP (b : List Nat) : Rt := { reads b with pages := pgs b (kP b) }
theorem readsP_ok {b : List Nat} (h : Bytes 512 b) : Ok (readsP b) := by
  have r := reads_ok h
  exact ⟨r.ver, r.sup, r.area, r.keys, r.len, pgs_ok h (Nat.le_trans (Nat.min_le_right _ _) (by decide))⟩
theorem splice_set (L : List Value) (k : Nat) (u : Value) (h : k < L.length) : splice L k [u] = L.set k u := by
  unfold splice
  rw [List.set_eq_take_append_cons_drop, if_pos h]; rfl
theorem rtc_pg (r : Rt) (ps : List Pg) (v : Value) : rtc { r with pages := ps } v = rtc r v := rfl
theorem rtc_set67 {r : Rt} (h : Ok r) (v u : Value) : (rtc r v).set 67 u = rtc r u := by
  have e : (Value.int .u64 (r.ver : Int) :: (row8 r.sup ++ (Value.int .i64 r.area :: (row8 r.keys ++ [.int .i64 r.len])))).length = 67 := by
    simp only [List.length_cons, List.length_append, row8_len, h.sup.1, h.keys.1, List.length_nil]
  have q : ∀ x, rtc r x = (Value.int .u64 (r.ver : Int) :: (row8 r.sup ++ (Value.int .i64 r.area :: (row8 r.keys ++ [.int .i64 r.len])))) ++ [x] := fun x => by unfold rtc; simp
  rw [q, q, List.set_append_right _ _ (by rw [e]; decide), e]; rfl
end RT
theorem built_root {r : Rt} (h : Ok r) : Tryd.prog.built 27 [(0, .int .u64 (r.ver : Int)), (1, .agg (row8 r.sup).toArray), (2, .int .i64 r.area), (3, .agg (row8 r.keys).toArray), (4, .int .i64 r.len)] = some (rtc r (.slice none 0 0)).toArray := by
  have z32 : (List.replicate 32 0).length = 32 := by simp
  have L : ∀ (r : Rt), r.sup.length = 32 → r.keys.length = 32 → (rtc r (.slice none 0 0)).length = 68 := fun r h1 h2 => by
    unfold rtc; simp only [List.length_cons, List.length_append, row8_len, h1, h2, List.length_nil]
  have e : Tryd.prog.built 27 [(0, .int .u64 (r.ver : Int)), (1, .agg (row8 r.sup).toArray), (2, .int .i64 r.area), (3, .agg (row8 r.keys).toArray), (4, .int .i64 r.len)] = Instr.fill (#[(0, 1), (1, 32), (33, 1), (34, 32), (66, 1), (67, 1)][·]?) (rtc zero (.slice none 0 0)).toArray [(0, .int .u64 (r.ver : Int)), (1, .agg (row8 r.sup).toArray), (2, .int .i64 r.area), (3, .agg (row8 r.keys).toArray), (4, .int .i64 r.len)] := by kernel_rfl
  obtain ⟨r0, h0⟩ : ∃ r0 : Rt, r0 = zero := ⟨_, rfl⟩
  have q0 : r0.sup.length = 32 ∧ r0.keys.length = 32 := by rw [h0]; exact ⟨z32, z32⟩
  obtain ⟨r1, h1⟩ : ∃ r1 : Rt, r1 = { r0 with ver := r.ver } := ⟨_, rfl⟩
  have q1 : r1.sup.length = 32 ∧ r1.keys.length = 32 := by rw [h1]; exact q0
  obtain ⟨r2, h2⟩ : ∃ r2 : Rt, r2 = { r1 with sup := r.sup } := ⟨_, rfl⟩
  have q2 : r2.sup.length = 32 ∧ r2.keys.length = 32 := by rw [h2]; exact ⟨h.sup.1, q1.2⟩
  obtain ⟨r3, h3⟩ : ∃ r3 : Rt, r3 = { r2 with area := r.area } := ⟨_, rfl⟩
  have q3 : r3.sup.length = 32 ∧ r3.keys.length = 32 := by rw [h3]; exact q2
  obtain ⟨r4, h4⟩ : ∃ r4 : Rt, r4 = { r3 with keys := r.keys } := ⟨_, rfl⟩
  have q4 : r4.sup.length = 32 ∧ r4.keys.length = 32 := by rw [h4]; exact ⟨q3.1, h.keys.1⟩
  have s0 : splice (rtc r0 (.slice none 0 0)) 0 [.int .u64 (r.ver : Int)] = rtc r1 (.slice none 0 0) := by rw [splice_set _ _ _ (by rw [L _ q0.1 q0.2]; decide), h1]; rfl
  have s1 : splice (rtc r1 (.slice none 0 0)) 1 (row8 r.sup) = rtc r2 (.slice none 0 0) := by rw [h2]; exact rtc_sup_put q1.1 h.sup _
  have s2 : splice (rtc r2 (.slice none 0 0)) 33 [.int .i64 r.area] = rtc r3 (.slice none 0 0) := by rw [splice_set _ _ _ (by rw [L _ q2.1 q2.2]; decide), h3]; exact rtc_area_put q2.1 _ _
  have s3 : splice (rtc r3 (.slice none 0 0)) 34 (row8 r.keys) = rtc r4 (.slice none 0 0) := by rw [h4]; exact rtc_keys_put q3.1 q3.2 h.keys _
  have s4 : splice (rtc r4 (.slice none 0 0)) 66 [.int .i64 r.len] = rtc r (.slice none 0 0) := by
    rw [splice_set _ _ _ (by rw [L _ q4.1 q4.2]; decide), rtc_len_put q4.1 q4.2]
    rw [h4, h3, h2, h1]; rfl
  rw [e, ← h0]
  rw [fill_step _ 0 0 1 rfl _ [.int .u64 (r.ver : Int)] rfl rfl _ (by rw [L _ q0.1 q0.2]; decide), s0, fill_step _ 1 1 32 rfl _ (row8 r.sup) rfl (by rw [row8_len, h.sup.1]) _ (by rw [L _ q1.1 q1.2]; decide), s1,
    fill_step _ 2 33 1 rfl _ [.int .i64 r.area] rfl rfl _ (by rw [L _ q2.1 q2.2]; decide), s2, fill_step _ 3 34 32 rfl _ (row8 r.keys) rfl (by rw [row8_len, h.keys.1]) _ (by rw [L _ q3.1 q3.2]; decide), s3,
    fill_step _ 4 66 1 rfl _ [.int .i64 r.len] rfl rfl _ (by rw [L _ q4.1 q4.2]; decide), s4, fill_nil]
theorem infoRtP : (Tryd.prog.info? 27).map (·.size) = some 68 := by kernel_rfl
theorem infoFn : (Tryd.prog.info? 76).map (·.size) = some 1 := by kernel_rfl
theorem infoRefsP : (Tryd.prog.info? 25).map (·.size) = some 1 := by kernel_rfl
theorem rt_one (r : Rt) (ao : Option Addr) (n c : Nat) : ((rtc r (.slice ao n c)).toArray.all (·.oneCell')) = true := by
  rw [List.all_toArray, List.all_eq_true]
  intro u hu
  unfold rtc at hu
  rcases List.mem_cons.1 hu with rfl | hu
  · rfl
  rcases List.mem_append.1 hu with hu | hu
  · exact row8_one' _ u hu
  rcases List.mem_cons.1 hu with rfl | hu
  · rfl
  rcases List.mem_append.1 hu with hu | hu
  · exact row8_one' _ u hu
  rcases List.mem_cons.1 hu with rfl | hu
  · rfl
  rcases List.mem_cons.1 hu with rfl | hu
  · rfl
  · cases hu
/-- A free operation of a staged region. -/
theorem Stg.free {S : List Nat} {A : Nat → Told → World → Prop} {r : Told} {w w' : World} (h : Stg S A r w) (i : Nat) (v : Value) (hi : ∀ j, j < S.length → S.getD j 0 ≠ i) (m : Nat) (hm : m < S.length) (hr : r (S.getD m 0) = none) (hA : ∀ k, k ≤ m → A k r w → A k (r.set i v) w') : Stg S A (r.set i v) w' := by
  obtain ⟨k, hk, h1, h2, h3⟩ := h
  have hkm : k ≤ m := by
    rcases Nat.lt_or_ge m k with q | q
    · exact absurd hr (h1 m q)
    · exact q
  exact ⟨k, hk, fun j hj => by rw [Told.set_ne (hi j (by omega))]; exact h1 j hj, fun j h4 h5 => by rw [Told.set_ne (hi j h5)]; exact h2 j h4 h5, hA k hkm h3⟩
section
variable {P : Program} {ops : List Oper} {Q : Exit → Act → World → Prop} {o : Oper} {a : Act} {w : World} {I : Told → World → Prop} {tbl : List Fz} {r : Told} {i : Nat} {S : List Nat}
theorem doesZ_put1 (hi : i ∈ S) (hw : Region.wanted o (yielded ops.toArray a.tmps) = true) (ty : TypeId) (p x : Operand) (ho : o.op = .store ty p x) (b k : Nat) (hp : a.eval p = .pointer (some ⟨b, k, none⟩)) (u : Value) (hx : a.eval x = u) (t : TypeId) (cs : List Value) (hb : Blk w b t cs) (hk : k < cs.length)
    (hz : (P.info? ty).map (·.size) = some 1) (hc : u.cells = #[u]) (h1 : u.oneCell' = true) (hT : tbl.getD i .any = .any) (hI : ∀ w', Blk w' b t (cs.set k u) → w.grownBy w' (some b) → I (r.set i undef) w') :
    DoesK P ops Q o a w (fun v w' => I (if i ∈ S then r.set i v else r) w' ∧ (tbl.getD i .any).holds (if i ∈ S then r.set i v else r) v) := by
  refine doesZ_turn hi hw fun K hK => ?_
  have hr := run_store_one (P := P) w b k ty u hc (there_part hb k 1 (by omega)) hz h1
  unfold Oper.wp execOp
  simp only [ho, hp, hx, Sem.run_bind, hr, Result.andThen_ok, Sem.run_pure]
  exact hK _ _ (hI _ (hb.set k u) (grownBy_cell w b k u)) (by rw [hT]; trivial)
end
/-- What stands while a root is read: the reader, the variables that hold it and the closure, the root that is told. -/
structure PJ (N : Nat → Prop) (w0 : World) (rb lb sb : Nat) (Z : List Value) (l : List Nat) (w : World) : Prop where
  rdr : Rdr N w rb l 0
  lbk : Blk w lb 85 [.pointer (some ⟨rb, 0, none⟩)]
  sbk : Blk w sb 76 [.func (.func 44) #[] #[.pointer (some ⟨lb, 0, none⟩)]]
  res : Blk w w0.heap.size 27 Z
  bel : Below w0.heap.size w0 w
  h0 : w0.heap.size < rb
  h1 : rb < lb
  h2 : lb < sb
  hN : ∀ g, N g → w0.heap.size < g ∧ g < lb
section
variable {N : Nat → Prop} {w0 w w' : World} {rb lb sb xb : Nat} {Z X : List Value} {l l' : List Nat}
theorem PJ.read (h : PJ N w0 rb lb sb Z l w) (r : Rdr N w' rb l' 0) (g : w.grownBy w' (some rb)) : PJ N w0 rb lb sb Z l' w' :=
  have := h.h0; have := h.h1; have := h.h2
  ⟨r, h.lbk.grown g (fun e => by have := Option.some.inj e; omega), h.sbk.grown g (fun e => by have := Option.some.inj e; omega), h.res.grown g (fun e => by have := Option.some.inj e; omega), h.bel.grown g h.bel.size (fun q e => by have := Option.some.inj e; omega), h.h0, h.h1, h.h2, h.hN⟩
theorem PJ.turn (h : PJ N w0 rb lb sb Z l w) {row : Option Nat} (g : w.grownBy w' row) (hc : ∀ c, row = some c → sb < c) : PJ N w0 rb lb sb Z l w' :=
  have := h.h0; have := h.h1; have := h.h2
  ⟨h.rdr.past g (fun e => by have := hc _ e; omega) (fun q hq e => by have := hc _ e; have := h.hN q hq; omega), h.lbk.grown g (fun e => by have := hc _ e.symm; omega), h.sbk.grown g (fun e => by have := hc _ e.symm; omega), h.res.grown g (fun e => by have := hc _ e.symm; omega), h.bel.grown g h.bel.size (fun q e => by have := hc _ e; omega), h.h0, h.h1, h.h2, h.hN⟩
theorem PJ.on (h : PJ N w0 rb lb sb Z l w) (g : Below w.heap.size w w') : PJ N w0 rb lb sb Z l w' := h.turn (grown_of_below g none) (fun c e => by cases e)
theorem PJ.drew (h : PJ N w0 rb lb sb Z l w) : PJ N w0 rb lb sb Z l w.drew := h.on (Below.refl _ _).drew
theorem PJ.nlt (h : PJ N w0 rb lb sb Z l w) : ∀ g, N g → g < w.heap.size := fun g hg => by have := (h.hN g hg).2; have := h.lbk.lt; omega
theorem PJ.u8 (h : PJ N w0 rb lb sb Z l w) (hl : 1 ≤ l.length) : Calls Tryd.prog 49 #[.pointer (some ⟨rb, 0, none⟩)] w fun e w' => ∃ v, e = .returned v ∧ v = .int .u8 (num (l.take 1) : Nat) ∧ PJ N w0 rb lb sb Z (l.drop 1) w' ∧ w.grownBy w' (some rb) :=
  (u8_rd h.rdr hl).mono fun _ _ ⟨h1, h3, h4⟩ => ⟨_, h1, rfl, h.read h3 h4, h4⟩
theorem PJ.u16 (h : PJ N w0 rb lb sb Z l w) (hl : 2 ≤ l.length) : Calls Tryd.prog 50 #[.pointer (some ⟨rb, 0, none⟩)] w fun e w' => ∃ v, e = .returned v ∧ v = .int .u16 (num (l.take 2) : Nat) ∧ PJ N w0 rb lb sb Z (l.drop 2) w' ∧ w.grownBy w' (some rb) :=
  (u16_rd h.rdr hl).mono fun _ _ ⟨h1, h3, h4⟩ => ⟨_, h1, rfl, h.read h3 h4, h4⟩
theorem PJ.u64 (h : PJ N w0 rb lb sb Z l w) (hl : 8 ≤ l.length) : Calls Tryd.prog 48 #[.pointer (some ⟨rb, 0, none⟩)] w fun e w' => ∃ v, e = .returned v ∧ v = .int .u64 (num (l.take 8) : Nat) ∧ PJ N w0 rb lb sb Z (l.drop 8) w' ∧ w.grownBy w' (some rb) :=
  (u64_rd h.rdr hl).mono fun _ _ ⟨h1, h3, h4⟩ => ⟨_, h1, rfl, h.read h3 h4, h4⟩
theorem PJ.sum (h : PJ N w0 rb lb sb Z l w) (hl : 32 ≤ l.length) : Calls Tryd.prog 44 #[.pointer (some ⟨lb, 0, none⟩)] w fun e w' => ∃ v, e = .returned v ∧ v = .agg (row8 (l.take 32)).toArray ∧ PJ N w0 rb lb sb Z (l.drop 32) w' ∧ w.grownBy w' (some rb) :=
  (rdsum_any w rb lb l h.rdr h.lbk hl h.nlt).mono fun _ _ ⟨h1, h3, h4⟩ => ⟨_, h1, rfl, h.read h3 h4, h4⟩
theorem PJ.ref (h : PJ N w0 rb lb sb Z l w) (hl : 36 ≤ l.length) : Calls Tryd.prog 46 #[.pointer (some ⟨lb, 0, none⟩), .pointer (some ⟨sb, 0, none⟩)] w fun e w' => ∃ v, e = .returned v ∧ v = .agg (pc (pgOf l)).toArray ∧ PJ N w0 rb lb sb Z (l.drop 36) w' ∧ w.grownBy w' (some rb) :=
  (rdref_any w rb lb sb l h.rdr h.lbk h.sbk hl h.nlt h.h1 h.h2).mono fun _ _ ⟨h1, h3, h4⟩ => ⟨_, h1, rfl, h.read h3 h4, h4⟩
/-- The root that is built, once it is made (operation 13). -/
def XB (sb : Nat) (Z : List Value) (r : Told) (w : World) : Prop := ∀ v, r 13 = some v → ∃ xb, v = .pointer (some ⟨xb, 0, none⟩) ∧ Blk w xb 27 Z ∧ sb < xb
theorem XB.read {r : Told} (h : XB sb Z r w) (g : w.grownBy w' (some rb)) (hb : rb < sb) (i : Nat) (u : Value) (hi : 13 ≠ i) : XB sb Z (r.set i u) w' := fun v hv => by
  rw [Told.set_ne hi] at hv
  obtain ⟨xb, e, h1, h2⟩ := h v hv
  exact ⟨xb, e, h1.grown g (fun q => by have := Option.some.inj q; omega), h2⟩
def RBA (N : Nat → Prop) (w0 : World) (rb lb sb : Nat) (Z XF : List Value) (l0 l1 l2 l3 l4 l5 : List Nat) : Nat → Told → World → Prop
  | 0, r, w => PJ N w0 rb lb sb Z l0 w ∧ XB sb Z r w
  | 1, r, w => PJ N w0 rb lb sb Z l1 w ∧ XB sb Z r w
  | 2, r, w => PJ N w0 rb lb sb Z l2 w ∧ XB sb Z r w
  | 3, r, w => PJ N w0 rb lb sb Z l3 w ∧ XB sb Z r w
  | 4, r, w => PJ N w0 rb lb sb Z l4 w ∧ XB sb Z r w
  | 5, r, w => PJ N w0 rb lb sb Z l5 w ∧ XB sb Z r w
  | _, r, w => PJ N w0 rb lb sb Z l5 w ∧ ∃ xb, r 13 = some (.pointer (some ⟨xb, 0, none⟩)) ∧ Blk w xb 27 XF ∧ sb < xb
/-- A page is read and appended. -/
def LA (N : Nat → Prop) (w0 : World) (rb lb sb xb : Nat) (Z : List Value) (XF : Value → List Value) (pv : Value) (k : Nat) (cs cs' PG : List Value) (l l' : List Nat) : Nat → Told → World → Prop
  | 0, _, w => PJ N w0 rb lb sb Z l w ∧ Blk w xb 27 (XF pv) ∧ w.ownsRow (xb + 1) 45 33 pv k cs
  | 1, _, w => PJ N w0 rb lb sb Z l' w ∧ Blk w xb 27 (XF pv) ∧ w.ownsRow (xb + 1) 45 33 pv k cs
  | 2, r, w => PJ N w0 rb lb sb Z l' w ∧ Blk w xb 27 (XF pv) ∧ w.ownsRow (xb + 1) 45 33 pv k cs ∧ ∃ v, r 4 = some v ∧ RdT 33 w v 1 PG
  | 3, r, w => PJ N w0 rb lb sb Z l' w ∧ Blk w xb 27 (XF pv) ∧ ∃ v, r 5 = some v ∧ w.ownsRow (xb + 1) 45 33 v (k + 1) cs'
  | _, r, w => PJ N w0 rb lb sb Z l' w ∧ ∃ v, r 5 = some v ∧ w.ownsRow (xb + 1) 45 33 v (k + 1) cs' ∧ Blk w xb 27 (XF v)
end
set_option maxRecDepth 100000 in
set_option maxHeartbeats 4000000 in
theorem pread_any (b : List Nat) (hb : Bytes 512 b) (v : Value) (w : World) (hv : Rd w v (b.take 480)) : Calls Tryd.prog 26 #[v] w fun e w' => ∃ pv, e = .returned (.agg (rtc (readsP b) pv).toArray) ∧ w'.ownsRow w.heap.size 45 33 pv (readsP b).pages.length (pcs (readsP b).pages) ∧ Below w.heap.size w w' := by
  have hz := zeroRt
  obtain ⟨Z0, hZ0⟩ : ∃ Z, Z = rtc zero (.slice none 0 0) := ⟨_, rfl⟩
  rw [← hZ0] at hz
  have Z68 := Lib.hid (show Z0.length = 68 by rw [hZ0]; exact rtc_len zero_ok _)
  have hok := readsP_ok hb
  obtain ⟨XF, hXF⟩ : ∃ XF : Value → List Value, XF = rtc (readsP b) := ⟨_, rfl⟩
  have XFL := Lib.hid (fun u => show (XF u).length = 68 by rw [hXF]; exact rtc_len hok u)
  have XFP := Lib.hid (fun u => show (XF u)[67]? = some u by rw [hXF]; exact rtc_pages hok u)
  have XFS := Lib.hid (fun v u => show (XF v).set 67 u = XF u by rw [hXF]; exact rtc_set67 hok v u)
  have XF1 := Lib.hid (fun ao n c => show ((XF (.slice ao n c)).toArray.all (·.oneCell')) = true by rw [hXF]; exact rt_one _ ao n c)
  have HPN := Lib.hid (show (readsP b).pages.length = kP b ∧ pcs (readsP b).pages = pcs (pgs b (kP b)) from ⟨pgs_len b _, rfl⟩)
  obtain ⟨XF0, hXF0⟩ : ∃ X, X = XF (.slice none 0 0) := ⟨_, rfl⟩
  have XF0L := Lib.hid (show XF0.length = 68 by rw [hXF0]; exact XFL.out _)
  have XF01 := Lib.hid (show (XF0.toArray.all (·.oneCell')) = true by rw [hXF0]; exact XF1.out _ _ _)
  have H512 := Lib.hid hb.1
  obtain ⟨VER, hVER⟩ : ∃ n, n = num ((b.drop 4).take 8) := ⟨_, rfl⟩
  obtain ⟨SUP, hSUP⟩ : ∃ n, n = (b.drop 12).take 32 := ⟨_, rfl⟩
  obtain ⟨AR, hAR⟩ : ∃ n, n = gb b 44 := ⟨_, rfl⟩
  obtain ⟨KEYS, hKEYS⟩ : ∃ n, n = (b.drop 45).take 32 := ⟨_, rfl⟩
  obtain ⟨LN, hLN⟩ : ∃ n, n = num ((b.drop 77).take 2) := ⟨_, rfl⟩
  have HBU := Lib.hid (show Tryd.prog.built 27 [(0, .int .u64 (VER : Int)), (1, .agg (row8 SUP).toArray), (2, .int .i64 (AR : Int)), (3, .agg (row8 KEYS).toArray), (4, .int .i64 (LN : Int))] = some XF0.toArray by
    rw [hXF0, hXF, hVER, hSUP, hAR, hKEYS, hLN]; exact built_root hok)
  have hAR2 : AR < 256 := by rw [hAR]; exact hb.2 _
  have hLN2 : LN < 65536 := by
    have c2 := cut_bytes hb 77 2 (by decide)
    have n2 := num_le _ c2.2 2 (by rw [c2.1]; exact Nat.le_refl _)
    rw [hLN]; exact n2
  have aAR : IntKind.i64.wrap (AR : Int) = (AR : Int) := by rw [IntKind.wrap_i64]; omega
  have aLN : IntKind.i64.wrap (LN : Int) = (LN : Int) := by rw [IntKind.wrap_i64]; omega
  have rl := fun o => rest_len hb.1 o
  have rt := fun o n (h : o + n ≤ 480) => rest_take (b := b) o n h
  obtain ⟨l, hl⟩ : ∃ l, l = b.take 480 := ⟨_, rfl⟩
  rw [← hl] at hv
  simp only [← hl] at rl rt
  have d : ∀ o n, (l.drop o).drop n = l.drop (o + n) := fun o n => List.drop_drop
  have HT := Lib.hid (fun N W rb (h : Rdr N W rb l 0) => take_rd h 4 (by have := rl 0; rw [List.drop_zero] at this; omega) 4 rfl)
  have H1 := fun N rb lb sb W (h : PJ N w rb lb sb Z0 (l.drop 4) W) => h.u64 (by rw [rl]; decide)
  have H2 := fun N rb lb sb W (h : PJ N w rb lb sb Z0 (l.drop 12) W) => h.sum (by rw [rl]; decide)
  have H3 := fun N rb lb sb W (h : PJ N w rb lb sb Z0 (l.drop 44) W) => h.u8 (by rw [rl]; decide)
  have H4 := fun N rb lb sb W (h : PJ N w rb lb sb Z0 (l.drop 45) W) => h.sum (by rw [rl]; decide)
  have H5 := fun N rb lb sb W (h : PJ N w rb lb sb Z0 (l.drop 77) W) => h.u16 (by rw [rl]; decide)
  have H6 := fun N rb lb sb W (h : PJ N w rb lb sb Z0 (l.drop 79) W) => h.u8 (by rw [rl]; decide)
  simp only [d, rt 4 8 (by decide), ← hVER, rt 12 32 (by decide), ← hSUP, rt 44 1 (by decide), num_at (b := b) (o := 44) (by rw [hb.1]; decide), ← hAR, rt 45 32 (by decide), ← hKEYS, rt 77 2 (by decide), ← hLN, rt 79 1 (by decide), num_at (b := b) (o := 79) (by rw [hb.1]; decide), Nat.reduceAdd] at H1 H2 H3 H4 H5 H6
  have H7 := fun N rb lb sb k (hk : k < 8) W (h : PJ N w rb lb sb Z0 (l.drop (80 + k * 36)) W) => h.ref (by rw [rl]; omega)
  have HPG := fun k (hk : k < 8) => (show pgOf (l.drop (80 + k * 36)) = pgAt b k by
    unfold pgOf pgAt
    rw [d, rt _ 4 (by omega), show 80 + k * 36 + 4 = 84 + k * 36 by omega, rt _ 32 (by omega)])
  have H7 := fun N rb lb sb k (hk : k < 8) W h => (by rw [← HPG k hk]; exact H7 N rb lb sb k hk W h : Calls Tryd.prog 46 #[.pointer (some ⟨lb, 0, none⟩), .pointer (some ⟨sb, 0, none⟩)] W fun e w' => ∃ v, e = .returned v ∧ v = .agg (pc (pgAt b k)).toArray ∧ PJ N w rb lb sb Z0 ((l.drop (80 + k * 36)).drop 36) w' ∧ W.grownBy w' (some rb))
  have HD := Lib.hid (fun k => show (l.drop (80 + k * 36)).drop 36 = l.drop (80 + (k + 1) * 36) by rw [d]; congr 1; omega)
  have HPO := Lib.hid (fun k (hk : k < 8) => pgAt_ok hb (show k < 9 by omega))
  obtain ⟨KB, hKB⟩ : ∃ n, n = gb b 79 := ⟨_, rfl⟩
  have hKB2 : KB < 256 := by rw [hKB]; exact hb.2 _
  rw [← hKB] at H6
  obtain ⟨KP, hKP⟩ : ∃ n, n = kP b := ⟨_, rfl⟩
  rw [← hKP] at HPN
  have HKP := Lib.hid (show ((min (KB : Int) 8 : Int)) = (KP : Int) by rw [hKP, hKB]; unfold kP; omega)
  have K8' := Lib.hid (show KP ≤ 8 by rw [hKP]; exact Nat.min_le_right _ _)
  have H1 := Lib.hid H1; have H2 := Lib.hid H2; have H3 := Lib.hid H3; have H4 := Lib.hid H4; have H5 := Lib.hid H5; have H6 := Lib.hid H6; have H7 := Lib.hid H7
  have NX := Lib.hid (fun k => pgs_next b k)
  have P0 := Lib.hid (show pcs (pgs b 0) = [] from rfl)
  have HXF := Lib.hid hXF
  have HXF0 := Lib.hid hXF0
  have bw := (Below.refl w.heap.size w).alloc (Nat.le_refl _) (.cells Z0.toArray 27)
  obtain ⟨w1, hw1⟩ : ∃ x, x = w.alloc (.cells Z0.toArray 27) := ⟨_, rfl⟩
  rw [← hw1] at bw
  have W1 := Lib.hid bw
  have Z1 := Lib.hid (show Blk w1 w.heap.size 27 Z0 by rw [hw1]; exact Blk.new w _ _ _ rfl)
  have S1 := Lib.hid (show w1.heap.size = w.heap.size + 1 by rw [hw1]; simp)
  have HRD := Lib.hid (read_any w1 v l (hv.below bw))
  clear hZ0 hok hXF hXF0 hb hVER hSUP hAR hKEYS hLN rl rt hl d HPG hKB hKP bw hv
  go_enter Tryd.func26, Tryd.ntmps26
  go_upto_region 1 with (fail)
  rw [← hw1]
  clear hw1
  go_upto_region 2 with (go_at_call 43; (with_reducible refine HRD.out.mono ?_); rintro e w2 ⟨rb, rfl, r2, b2, l2⟩; have K2 := Lib.hid r2; have B2 := Lib.hid b2; have HRB := Lib.hid l2; clear r2 b2 l2)
  obtain ⟨N, hN⟩ : ∃ N : Nat → Prop, N = fun g => w1.heap.size ≤ g ∧ g < w2.heap.size := ⟨_, rfl⟩
  rw [← hN] at K2
  have bb := ((Below.refl w2.heap.size w2).alloc (Nat.le_refl _) (.cells #[.pointer (some ⟨rb, 0, none⟩)] 85)).alloc (by simp) (.cells #[.nilFunc] 76)
  have L1 : Blk ((w2.alloc (.cells #[.pointer (some ⟨rb, 0, none⟩)] 85)).alloc (.cells #[.nilFunc] 76)) w2.heap.size 85 [.pointer (some ⟨rb, 0, none⟩)] := (Blk.new w2 85 [.pointer (some ⟨rb, 0, none⟩)] _ rfl).alloc _
  have S2 : Blk ((w2.alloc (.cells #[.pointer (some ⟨rb, 0, none⟩)] 85)).alloc (.cells #[.nilFunc] 76)) (w2.heap.size + 1) 76 [.nilFunc] := by
    have h := Blk.new (w2.alloc (.cells #[.pointer (some ⟨rb, 0, none⟩)] 85)) 76 [.nilFunc] _ rfl
    rw [show (w2.alloc (.cells #[.pointer (some ⟨rb, 0, none⟩)] 85)).heap.size = w2.heap.size + 1 by simp] at h
    exact h
  have HW := Lib.hid bb
  have L1 := Lib.hid L1
  have S2 := Lib.hid S2
  have RLT := Lib.hid K2.out.lt
  clear bb
  go_upto_region 3 with (refine wpList_put1R rfl 76 (.tmp 4) (.tmp 9) rfl (w2.heap.size + 1) 0 (.func (.func 44) #[] #[.pointer (some ⟨w2.heap.size, 0, none⟩)]) rfl rfl 76 [.nilFunc] S2.out (by decide) infoFn rfl rfl ?_; intro w3 b3 g3; have S3 := Lib.hid b3; have G3 := Lib.hid g3; clear b3 g3)
  obtain ⟨lb, hlb⟩ : ∃ x, x = w2.heap.size := ⟨_, rfl⟩
  obtain ⟨sb, hsb⟩ : ∃ x, x = lb + 1 := ⟨_, rfl⟩
  have HPJ := Lib.hid (show PJ N w rb lb sb Z0 l w3 from by
    have h1 := S1.out
    have h2 := B2.out.size
    have h3 := HRB.out
    have h4 := RLT.out
    refine ⟨(K2.out.below HW.out).past G3.out (fun e => by have := Option.some.inj e; omega) (fun g hg e => by rw [hN] at hg; have := hg.2; have := Option.some.inj e; omega), by rw [hlb]; exact L1.out.grown G3.out (fun e => by have := Option.some.inj e; omega), by rw [hsb, hlb]; exact S3.out, ?_, ?_, by omega, by omega, by omega, fun g hg => by rw [hN] at hg; have := hg.1; have := hg.2; omega⟩
    · exact ((Z1.out.below B2.out Z1.out.lt).below HW.out (Nat.lt_of_lt_of_le Z1.out.lt h2)).grown G3.out (fun e => by have := Option.some.inj e; omega)
    · exact ((W1.out.on B2.out).on HW.out).grown G3.out (by have := HW.out.size; omega) (fun q e => by have := Option.some.inj e; omega))
  have hlb' := hlb.symm
  have hsb' : w2.heap.size + 1 = sb := by rw [hsb, hlb]
  rw [hsb', hlb']
  clear hlb hsb hlb' hsb' K2 B2 HRB HW L1 S2 S3 G3 Z1 S1 HRD W1 hN RLT
  have c0 := HPJ.out.lbk.cell 0 _ rfl
  have HT1 := Lib.hid (HT.out _ _ _ HPJ.out.rdr)
  go_upto_region 5 with (go_at_call 45; (with_reducible refine HT1.out.mono ?_); rintro e w4 ⟨v4, rfl, _, k4, g4⟩; have HPJ4 := Lib.hid (HPJ.out.read k4 g4); clear k4 g4)
  clear c0 HT HT1 HPJ
  have HPJ := HPJ4
  clear HPJ4
  have H1 := Lib.hid (H1.out N rb lb sb); have H2 := Lib.hid (H2.out N rb lb sb); have H3 := Lib.hid (H3.out N rb lb sb); have H4 := Lib.hid (H4.out N rb lb sb); have H5 := Lib.hid (H5.out N rb lb sb); have H6 := Lib.hid (H6.out N rb lb sb); have H7 := Lib.hid (H7.out N rb lb sb)
  have RLS := Lib.hid (show rb < sb by have := HPJ.out.h1; have := HPJ.out.h2; omega)
  obtain ⟨l0, hl0⟩ : ∃ x, x = l.drop 4 := ⟨_, rfl⟩
  obtain ⟨l1, hl1⟩ : ∃ x, x = l.drop 12 := ⟨_, rfl⟩
  obtain ⟨l2, hl2⟩ : ∃ x, x = l.drop 44 := ⟨_, rfl⟩
  obtain ⟨l3, hl3⟩ : ∃ x, x = l.drop 45 := ⟨_, rfl⟩
  obtain ⟨l4, hl4⟩ : ∃ x, x = l.drop 77 := ⟨_, rfl⟩
  obtain ⟨l5, hl5⟩ : ∃ x, x = l.drop 79 := ⟨_, rfl⟩
  rw [← hl0] at HPJ H1
  rw [← hl1] at H1 H2
  rw [← hl2] at H2 H3
  rw [← hl3] at H3 H4
  rw [← hl4] at H4 H5
  rw [← hl5] at H5 H6
  clear hl0 hl1 hl2 hl3 hl4 hl5
  refine wp_region_z (by kernel_rfl) [1, 3, 5, 8, 10, 13, 14] (by kernel_rfl) (by kernel_rfl) (Stg [1, 3, 5, 8, 10, 14] (RBA N w rb lb sb Z0 XF0 l0 l1 l2 l3 l4 l5)) [.pre (.pointer (some ⟨rb, 0, none⟩)), .pre (.int .u64 (VER : Int)), .pre (.func (.func 44) #[] #[.pointer (some ⟨lb, 0, none⟩)]), .pre (.agg (row8 SUP).toArray), .pre (.pointer (some ⟨rb, 0, none⟩)), .pre (.int .u8 (AR : Int)), .pre (.int .i64 (AR : Int)), .pre (.func (.func 44) #[] #[.pointer (some ⟨lb, 0, none⟩)]), .pre (.agg (row8 KEYS).toArray), .pre (.pointer (some ⟨rb, 0, none⟩)), .pre (.int .u16 (LN : Int)), .pre (.int .i64 (LN : Int)), .pre (.agg XF0.toArray), .of 13 (fun u v => v = u), .any] (fun i hi hq => by
        simp only [List.mem_cons, List.mem_nil_iff, or_false] at hi
        rcases hi with rfl | rfl | rfl | rfl | rfl | rfl | rfl
        · exact absurd hq (by decide +kernel)
        · exact absurd hq (by decide +kernel)
        · exact absurd hq (by decide +kernel)
        · exact absurd hq (by decide +kernel)
        · exact absurd hq (by decide +kernel)
        · exact absurd hq (by decide +kernel)
        · rfl) (Stg.zero (show PJ N w rb lb sb Z0 l0 _ ∧ XB sb Z0 (fun _ => none) _ from ⟨HPJ.out.drew, fun v hv => by cases hv⟩)) ?_ ?_
  · refine ⟨?_, ?_, ?_, ?_, ?_, ?_, ?_, ?_, ?_, ?_, ?_, ?_, ?_, ?_, ?_, trivial⟩
    · intro a w5 r hF hI hns hri h1 h2 hd
      have e3 : a.eval (.tmp 3) = .pointer (some ⟨lb, 0, none⟩) := hF 3 (by decide +kernel)
      obtain ⟨l9, hA⟩ : ∃ l9, PJ N w rb lb sb Z0 l9 w5 := by
        obtain ⟨k, hk1, hk2, hA⟩ : ∃ k, 0 ≤ k ∧ k ≤ 0 ∧ (RBA N w rb lb sb Z0 XF0 l0 l1 l2 l3 l4 l5) k r w5 := hI.between 0 0 (.inl rfl) (.inr ⟨by decide, h1 1 (by decide) (by decide +kernel)⟩)
        obtain rfl : k = 0 := by omega
        exact ⟨_, hA.1⟩
      have c0 := hA.lbk.cell 0 _ rfl
      exact doesZ_read (v := .pointer (some ⟨rb, 0, none⟩)) (by decide) rfl (by unfold execOp; simp only [e3]; go_simp) hI rfl
    · intro a w5 r hF hI hns hri h1 h2 hd
      have e13 : a.eval (.tmp 13) = .pointer (some ⟨rb, 0, none⟩) := hd 0 (by decide +kernel)
      have hA : (RBA N w rb lb sb Z0 XF0 l0 l1 l2 l3 l4 l5) 0 r w5 := hI.at_ 0 (.inl rfl) (.inr ⟨by decide, hri⟩)
      have hA : PJ N w rb lb sb Z0 l0 w5 ∧ XB sb Z0 r w5 := hA
      exact doesZ_call (by decide) rfl (ex_call (vs := #[.pointer (some ⟨rb, 0, none⟩)]) rfl (by simp only [List.map_toArray, List.map_cons, List.map_nil, e13]) (by go_simp)) ((H1.out w5 hA.1).mono fun e w6 hh => by obtain ⟨v, he, rfl, hrs, hg⟩ := hh; exact ⟨_, he, hI.next 0 1 _ rfl (by decide) (.inl rfl) hri (by decide) ⟨hrs, hA.2.read hg RLS.out 1 _ (by decide)⟩, rfl⟩)
    · intro a w5 r hF hI hns hri h1 h2 hd
      have e4 : a.eval (.tmp 4) = .pointer (some ⟨sb, 0, none⟩) := hF 4 (by decide +kernel)
      obtain ⟨l9, hA⟩ : ∃ l9, PJ N w rb lb sb Z0 l9 w5 := by
        obtain ⟨k, hk1, hk2, hA⟩ : ∃ k, 0 ≤ k ∧ k ≤ 1 ∧ (RBA N w rb lb sb Z0 XF0 l0 l1 l2 l3 l4 l5) k r w5 := hI.between 0 1 (.inl rfl) (.inr ⟨by decide, h1 3 (by decide) (by decide +kernel)⟩)
        rcases (show k = 0 ∨ k = 1 by omega) with rfl | rfl
        · exact ⟨_, hA.1⟩
        · exact ⟨_, hA.1⟩
      have c0 := hA.sbk.cell 0 _ rfl
      exact doesZ_read (v := .func (.func 44) #[] #[.pointer (some ⟨lb, 0, none⟩)]) (by decide) rfl (by unfold execOp; simp only [e4]; go_simp) hI rfl
    · intro a w5 r hF hI hns hri h1 h2 hd
      have e15 : a.eval (.tmp 15) = .func (.func 44) #[] #[.pointer (some ⟨lb, 0, none⟩)] := hd 2 (by decide +kernel)
      have hA : (RBA N w rb lb sb Z0 XF0 l0 l1 l2 l3 l4 l5) 1 r w5 := hI.at_ 1 (.inr ⟨by decide, h2 1 (by decide) (by decide +kernel)⟩) (.inr ⟨by decide, hri⟩)
      have hA : PJ N w rb lb sb Z0 l1 w5 ∧ XB sb Z0 r w5 := hA
      exact doesZ_call (by decide) rfl (ex_call_clo rfl e15 (by go_simp)) ((H2.out w5 hA.1).mono fun e w6 hh => by obtain ⟨v, he, rfl, hrs, hg⟩ := hh; exact ⟨_, he, hI.next 1 3 _ rfl (by decide) (.inr ⟨by decide, h2 1 (by decide) (by decide +kernel)⟩) hri (by decide) ⟨hrs, hA.2.read hg RLS.out 3 _ (by decide)⟩, rfl⟩)
    · intro a w5 r hF hI hns hri h1 h2 hd
      have e3 : a.eval (.tmp 3) = .pointer (some ⟨lb, 0, none⟩) := hF 3 (by decide +kernel)
      obtain ⟨l9, hA⟩ : ∃ l9, PJ N w rb lb sb Z0 l9 w5 := by
        obtain ⟨k, hk1, hk2, hA⟩ : ∃ k, 0 ≤ k ∧ k ≤ 2 ∧ (RBA N w rb lb sb Z0 XF0 l0 l1 l2 l3 l4 l5) k r w5 := hI.between 0 2 (.inl rfl) (.inr ⟨by decide, h1 5 (by decide) (by decide +kernel)⟩)
        rcases (show k = 0 ∨ k = 1 ∨ k = 2 by omega) with rfl | rfl | rfl
        · exact ⟨_, hA.1⟩
        · exact ⟨_, hA.1⟩
        · exact ⟨_, hA.1⟩
      have c0 := hA.lbk.cell 0 _ rfl
      exact doesZ_read (v := .pointer (some ⟨rb, 0, none⟩)) (by decide) rfl (by unfold execOp; simp only [e3]; go_simp) hI rfl
    · intro a w5 r hF hI hns hri h1 h2 hd
      have e17 : a.eval (.tmp 17) = .pointer (some ⟨rb, 0, none⟩) := hd 4 (by decide +kernel)
      have hA : (RBA N w rb lb sb Z0 XF0 l0 l1 l2 l3 l4 l5) 2 r w5 := hI.at_ 2 (.inr ⟨by decide, h2 3 (by decide) (by decide +kernel)⟩) (.inr ⟨by decide, hri⟩)
      have hA : PJ N w rb lb sb Z0 l2 w5 ∧ XB sb Z0 r w5 := hA
      exact doesZ_call (by decide) rfl (ex_call (vs := #[.pointer (some ⟨rb, 0, none⟩)]) rfl (by simp only [List.map_toArray, List.map_cons, List.map_nil, e17]) (by go_simp)) ((H3.out w5 hA.1).mono fun e w6 hh => by obtain ⟨v, he, rfl, hrs, hg⟩ := hh; exact ⟨_, he, hI.next 2 5 _ rfl (by decide) (.inr ⟨by decide, h2 3 (by decide) (by decide +kernel)⟩) hri (by decide) ⟨hrs, hA.2.read hg RLS.out 5 _ (by decide)⟩, rfl⟩)
    · intro a w5 r hF hI hns hri h1 h2 hd
      have e18 : a.eval (.tmp 18) = .int .u8 (AR : Int) := hd 5 (by decide +kernel)
      exact doesZ_read (v := .int .i64 (AR : Int)) (by decide) rfl (ex_convert rfl e18 (by go_simp)) hI rfl
    · intro a w5 r hF hI hns hri h1 h2 hd
      have e4 : a.eval (.tmp 4) = .pointer (some ⟨sb, 0, none⟩) := hF 4 (by decide +kernel)
      obtain ⟨l9, hA⟩ : ∃ l9, PJ N w rb lb sb Z0 l9 w5 := by
        obtain ⟨k, hk1, hk2, hA⟩ : ∃ k, 0 ≤ k ∧ k ≤ 3 ∧ (RBA N w rb lb sb Z0 XF0 l0 l1 l2 l3 l4 l5) k r w5 := hI.between 0 3 (.inl rfl) (.inr ⟨by decide, h1 8 (by decide) (by decide +kernel)⟩)
        rcases (show k = 0 ∨ k = 1 ∨ k = 2 ∨ k = 3 by omega) with rfl | rfl | rfl | rfl
        · exact ⟨_, hA.1⟩
        · exact ⟨_, hA.1⟩
        · exact ⟨_, hA.1⟩
        · exact ⟨_, hA.1⟩
      have c0 := hA.sbk.cell 0 _ rfl
      exact doesZ_read (v := .func (.func 44) #[] #[.pointer (some ⟨lb, 0, none⟩)]) (by decide) rfl (by unfold execOp; simp only [e4]; go_simp) hI rfl
    · intro a w5 r hF hI hns hri h1 h2 hd
      have e20 : a.eval (.tmp 20) = .func (.func 44) #[] #[.pointer (some ⟨lb, 0, none⟩)] := hd 7 (by decide +kernel)
      have hA : (RBA N w rb lb sb Z0 XF0 l0 l1 l2 l3 l4 l5) 3 r w5 := hI.at_ 3 (.inr ⟨by decide, h2 5 (by decide) (by decide +kernel)⟩) (.inr ⟨by decide, hri⟩)
      have hA : PJ N w rb lb sb Z0 l3 w5 ∧ XB sb Z0 r w5 := hA
      exact doesZ_call (by decide) rfl (ex_call_clo rfl e20 (by go_simp)) ((H4.out w5 hA.1).mono fun e w6 hh => by obtain ⟨v, he, rfl, hrs, hg⟩ := hh; exact ⟨_, he, hI.next 3 8 _ rfl (by decide) (.inr ⟨by decide, h2 5 (by decide) (by decide +kernel)⟩) hri (by decide) ⟨hrs, hA.2.read hg RLS.out 8 _ (by decide)⟩, rfl⟩)
    · intro a w5 r hF hI hns hri h1 h2 hd
      have e3 : a.eval (.tmp 3) = .pointer (some ⟨lb, 0, none⟩) := hF 3 (by decide +kernel)
      obtain ⟨l9, hA⟩ : ∃ l9, PJ N w rb lb sb Z0 l9 w5 := by
        obtain ⟨k, hk1, hk2, hA⟩ : ∃ k, 0 ≤ k ∧ k ≤ 4 ∧ (RBA N w rb lb sb Z0 XF0 l0 l1 l2 l3 l4 l5) k r w5 := hI.between 0 4 (.inl rfl) (.inr ⟨by decide, h1 10 (by decide) (by decide +kernel)⟩)
        rcases (show k = 0 ∨ k = 1 ∨ k = 2 ∨ k = 3 ∨ k = 4 by omega) with rfl | rfl | rfl | rfl | rfl
        · exact ⟨_, hA.1⟩
        · exact ⟨_, hA.1⟩
        · exact ⟨_, hA.1⟩
        · exact ⟨_, hA.1⟩
        · exact ⟨_, hA.1⟩
      have c0 := hA.lbk.cell 0 _ rfl
      exact doesZ_read (v := .pointer (some ⟨rb, 0, none⟩)) (by decide) rfl (by unfold execOp; simp only [e3]; go_simp) hI rfl
    · intro a w5 r hF hI hns hri h1 h2 hd
      have e22 : a.eval (.tmp 22) = .pointer (some ⟨rb, 0, none⟩) := hd 9 (by decide +kernel)
      have hA : (RBA N w rb lb sb Z0 XF0 l0 l1 l2 l3 l4 l5) 4 r w5 := hI.at_ 4 (.inr ⟨by decide, h2 8 (by decide) (by decide +kernel)⟩) (.inr ⟨by decide, hri⟩)
      have hA : PJ N w rb lb sb Z0 l4 w5 ∧ XB sb Z0 r w5 := hA
      exact doesZ_call (by decide) rfl (ex_call (vs := #[.pointer (some ⟨rb, 0, none⟩)]) rfl (by simp only [List.map_toArray, List.map_cons, List.map_nil, e22]) (by go_simp)) ((H5.out w5 hA.1).mono fun e w6 hh => by obtain ⟨v, he, rfl, hrs, hg⟩ := hh; exact ⟨_, he, hI.next 4 10 _ rfl (by decide) (.inr ⟨by decide, h2 8 (by decide) (by decide +kernel)⟩) hri (by decide) ⟨hrs, hA.2.read hg RLS.out 10 _ (by decide)⟩, rfl⟩)
    · intro a w5 r hF hI hns hri h1 h2 hd
      have e23 : a.eval (.tmp 23) = .int .u16 (LN : Int) := hd 10 (by decide +kernel)
      exact doesZ_read (v := .int .i64 (LN : Int)) (by decide) rfl (ex_convert rfl e23 (by go_simp)) hI rfl
    · intro a w5 r hF hI hns hri h1 h2 hd
      have e14 : a.eval (.tmp 14) = .int .u64 (VER : Int) := hd 1 (by decide +kernel)
      have e16 : a.eval (.tmp 16) = .agg (row8 SUP).toArray := hd 3 (by decide +kernel)
      have e19 : a.eval (.tmp 19) = .int .i64 (AR : Int) := hd 6 (by decide +kernel)
      have e21 : a.eval (.tmp 21) = .agg (row8 KEYS).toArray := hd 8 (by decide +kernel)
      have e24 : a.eval (.tmp 24) = .int .i64 (LN : Int) := hd 11 (by decide +kernel)
      exact doesZ_read (v := .agg XF0.toArray) (by decide) rfl (ex_build rfl (by simp only [List.map_toArray, List.map_cons, List.map_nil, e14, e16, e19, e21, e24]; exact HBU.out)) hI rfl
    · intro a w5 r hF hI hns hri h1 h2 hd
      refine doesZ_turn (by decide) rfl fun K hK => ?_
      unfold Oper.wp execOp
      go_simp
      refine hK _ _ (hI.free 13 _ (by decide) 5 (by decide) (h1 14 (by decide) (by decide +kernel)) fun k hk hA => ?_) ⟨_, Told.set_same _ _ _, rfl⟩
      have bA := (Below.refl w5.heap.size w5).alloc (Nat.le_refl _) (.cells Z0.toArray 27)
      have hX : ∀ l9, PJ N w rb lb sb Z0 l9 w5 → PJ N w rb lb sb Z0 l9 (w5.alloc (.cells Z0.toArray 27)) ∧ XB sb Z0 (r.set 13 (.pointer (some ⟨w5.heap.size, 0, none⟩))) (w5.alloc (.cells Z0.toArray 27)) := fun l9 h9 => ⟨h9.on bA, fun v hv => by
        rw [Told.set_same] at hv
        obtain rfl := Option.some.inj hv
        exact ⟨w5.heap.size, rfl, Blk.new w5 _ _ _ rfl, h9.sbk.lt⟩⟩
      rcases (show k = 0 ∨ k = 1 ∨ k = 2 ∨ k = 3 ∨ k = 4 ∨ k = 5 by omega) with rfl | rfl | rfl | rfl | rfl | rfl
      · exact hX _ hA.1
      · exact hX _ hA.1
      · exact hX _ hA.1
      · exact hX _ hA.1
      · exact hX _ hA.1
      · exact hX _ hA.1
    · intro a w5 r hF hI hns hri h1 h2 hd
      obtain ⟨u6, hu6, e6⟩ : ∃ u, r 13 = some u ∧ a.eval (.tmp 6) = u := hd 13 (by decide +kernel)
      have e25 : a.eval (.tmp 25) = .agg XF0.toArray := hd 12 (by decide +kernel)
      have hA : (RBA N w rb lb sb Z0 XF0 l0 l1 l2 l3 l4 l5) 5 r w5 := hI.at_ 5 (.inr ⟨by decide, h2 10 (by decide) (by decide +kernel)⟩) (.inr ⟨by decide, hri⟩)
      have hA : PJ N w rb lb sb Z0 l5 w5 ∧ XB sb Z0 r w5 := hA
      obtain ⟨xb, hxe, hxb, hxl⟩ := hA.2 _ hu6
      rw [hxe] at e6 hu6
      exact doesZ_put (by decide) rfl 27 (.tmp 6) (.tmp 25) rfl xb 0 XF0 e6 e25 27 Z0 hxb (by have := XF0L.out; have := Z68.out; omega) (by rw [XF0L.out]; exact infoRtP) XF01.out rfl (fun w' b' g' => by rw [splice_all _ _ (by have := XF0L.out; have := Z68.out; omega)] at b'; exact hI.next 5 14 _ rfl (by decide) (.inr ⟨by decide, h2 10 (by decide) (by decide +kernel)⟩) hri (by decide) ⟨hA.1.turn g' (fun c e => by have := Option.some.inj e; omega), xb, by rw [Told.set_ne (by decide)]; exact hu6, b', hxl⟩)
  · intro vs r w7 hI hS hvs
    have hz : PJ N w rb lb sb Z0 l5 w7 ∧ ∃ xb, r 13 = some (.pointer (some ⟨xb, 0, none⟩)) ∧ Blk w7 xb 27 XF0 ∧ sb < xb := hI.at_ 6 (.inr ⟨by decide, hS 14 (by decide)⟩) (.inl rfl)
    have h6 : ∃ u, r 13 = some u ∧ vs 13 = u := hvs 13 (by decide)
    obtain ⟨hP, xb, hx1, hx2, hx3⟩ := hz
    obtain ⟨u, hu1, hu2⟩ := h6
    rw [hx1] at hu1
    obtain rfl := Option.some.inj hu1
    have HP := Lib.hid hP
    have X7 := Lib.hid hx2
    have RXB := Lib.hid (show sb < xb ∧ rb < xb ∧ w.heap.size < xb from ⟨hx3, by have := RLS.out; omega, by have := RLS.out; have := hP.h0; omega⟩)
    simp only [putOps, Act.put, List.setIfInBounds_toArray, List.set_cons_zero, List.set_cons_succ, hu2]
    clear hI hS hvs hP hx1 hx2 hx3 hu1 hu2 H1 H2 H3 H4 H5
    generalize vs 0 = y0; generalize vs 1 = y1; generalize vs 2 = y2; generalize vs 3 = y3; generalize vs 4 = y4; generalize vs 5 = y5; generalize vs 6 = y6; generalize vs 7 = y7; generalize vs 8 = y8; generalize vs 9 = y9; generalize vs 10 = y10; generalize vs 11 = y11; generalize vs 12 = y12
    have c0 := HP.out.lbk.cell 0 _ rfl
    go_wp2_with (first
      | (go_at_call 49; (with_reducible refine (H6.out _ HP.out).mono ?_); rintro e w8 ⟨v8, rfl, rfl, k8, g8⟩; have HP8 := Lib.hid k8; have X8 := Lib.hid (X7.out.grown g8 (fun e => by have := RXB.out.2.1; have := Option.some.inj e; omega)); clear k8 g8 c0)
      | (refine wpList_wanted rfl (.int .u8 (KP : Int)) (by rw [← HKP.out]; exact ex_min rfl rfl rfl) ?_))
    have I8 := HP8
    have O8 := Lib.hid (owned_none w8 (xb + 1) 33 45)
    rw [HXF0.out] at X8
    have E80 := Lib.hid (show (80 : Nat) = 80 + 0 * 36 from rfl)
    rw [E80.out] at I8
    clear HP X7 HP8 H6
    go_loopw [29] (fun i wr => ∃ (k : Nat) (pa : Option Addr) (pq : Nat), k ≤ KP ∧ i = .int .u8 (k : Int) ∧ PJ N w rb lb sb Z0 (l.drop (80 + k * 36)) wr ∧ Blk wr xb 27 (XF (.slice pa k pq)) ∧ wr.ownsRow (xb + 1) 45 33 (.slice pa k pq) k (pcs (pgs b k))) (fun i _ => 8 - (intOf i).toNat)
    case atStart => exact ⟨0, none, 0, Nat.zero_le _, rfl, I8.out, X8.out, by rw [P0.out]; exact O8.out⟩
    case round =>
      clear I8 X8 O8
      obtain ⟨k, pa, pq, hk, rfl, hi0, hx0, ho0⟩ := hrel
      have I0 := Lib.hid hi0
      have X0 := Lib.hid hx0
      have O0 := Lib.hid ho0
      clear hi0 hx0 ho0
      have K8 := K8'
      by_cases hlt : k < KP
      · have hk8 : k < 8 := Nat.lt_of_lt_of_le hlt K8.out
        have HRF := Lib.hid (H7.out k hk8)
        have POK := HPO.out k hk8
        have PGL := Lib.hid (pc_len POK)
        have PGO := Lib.hid (fun u hu => (pcs_one' [pgAt b k] u (by rw [pcs_one]; exact hu) : u.oneCell' = true))
        have HCS := Lib.hid (NX.out k)
        rw [HD.out k] at HRF
        obtain ⟨PG, hPG⟩ : ∃ x, x = pc (pgAt b k) := ⟨_, rfl⟩
        obtain ⟨CS, hCS⟩ : ∃ x, x = pcs (pgs b k) := ⟨_, rfl⟩
        obtain ⟨CS1, hCS1⟩ : ∃ x, x = pcs (pgs b (k + 1)) := ⟨_, rfl⟩
        obtain ⟨lk, hlk⟩ : ∃ x, x = l.drop (80 + k * 36) := ⟨_, rfl⟩
        obtain ⟨lk1, hlk1⟩ : ∃ x, x = l.drop (80 + (k + 1) * 36) := ⟨_, rfl⟩
        rw [← hPG] at HRF PGL PGO HCS
        rw [← hCS] at HCS O0
        rw [← hCS1] at HCS
        rw [← hlk] at HRF I0
        rw [← hlk1] at HRF
        have HCS1 := Lib.hid hCS1
        have HLK1 := Lib.hid hlk1
        have hklt : (k : Int) < (KP : Int) := by omega
        have hk0 : (0 : Int) ≤ (k : Int) := by omega
        have aw : IntKind.u8.wrap ((k : Int) + 1) = ((k + 1 : Nat) : Int) := by rw [IntKind.wrap_u8]; omega
        clear POK hPG hCS hCS1 hlk hlk1
        go_upto_region 8 with fail
        refine wp_region_z (by kernel_rfl) [3, 4, 5, 7] (by kernel_rfl) (by kernel_rfl) (Stg [3, 4, 5, 7] (LA N w rb lb sb xb Z0 XF (.slice pa k pq) k CS CS1 PG lk lk1)) [.pre (.pointer (some ⟨xb, 67, none⟩)), .pre (.slice pa k pq), .pre (.func (.func 46) #[] #[.pointer (some ⟨lb, 0, none⟩), .pointer (some ⟨sb, 0, none⟩)]), .pre (.agg PG.toArray), .of 4 (fun u v => v = u), .of 5 (fun u v => v = u), .pre (.pointer (some ⟨xb, 67, none⟩)), .any] (fun i hi hq => by
                    simp only [List.mem_cons, List.mem_nil_iff, or_false] at hi
                    rcases hi with rfl | rfl | rfl | rfl
                    · exact absurd hq (by decide +kernel)
                    · exact absurd hq (by decide +kernel)
                    · exact absurd hq (by decide +kernel)
                    · rfl) (Stg.zero (show PJ N w rb lb sb Z0 lk _ ∧ Blk _ xb 27 (XF (.slice pa k pq)) ∧ World.ownsRow _ (xb + 1) 45 33 (.slice pa k pq) k CS from ⟨I0.out.drew, X0.out.drew, ownsT_on O0.out (Below.refl _ _).drew⟩)) ?_ ?_
        · refine ⟨?_, ?_, ?_, ?_, ?_, ?_, ?_, ?_, trivial⟩
          · intro a w5 r hF hI hns hri h1 h2 hd
            have e6 : a.eval (.tmp 6) = .pointer (some ⟨xb, 0, none⟩) := hF 6 (by decide +kernel)
            exact doesZ_read (v := .pointer (some ⟨xb, 67, none⟩)) (by decide) rfl (ex_fieldAddr rfl e6 (by go_simp)) hI rfl
          · intro a w5 r hF hI hns hri h1 h2 hd
            have e31 : a.eval (.tmp 31) = .pointer (some ⟨xb, 67, none⟩) := hd 0 (by decide +kernel)
            obtain ⟨k9, hk1, hk2, hA⟩ : ∃ k9, 0 ≤ k9 ∧ k9 ≤ 2 ∧ (LA N w rb lb sb xb Z0 XF (.slice pa k pq) k CS CS1 PG lk lk1) k9 r w5 := hI.between 0 2 (.inl rfl) (.inr ⟨by decide, h1 5 (by decide) (by decide +kernel)⟩)
            have hX : Blk w5 xb 27 (XF (.slice pa k pq)) := by
              rcases (show k9 = 0 ∨ k9 = 1 ∨ k9 = 2 by omega) with rfl | rfl | rfl
              · exact hA.2.1
              · exact hA.2.1
              · exact hA.2.1
            have c0 := hX.cell 67 _ (XFP.out _)
            exact doesZ_read (v := .slice pa k pq) (by decide) rfl (by unfold execOp; simp only [e31]; go_simp) hI rfl
          · intro a w5 r hF hI hns hri h1 h2 hd
            have e5 : a.eval (.tmp 5) = .func (.func 46) #[] #[.pointer (some ⟨lb, 0, none⟩), .pointer (some ⟨sb, 0, none⟩)] := hF 5 (by decide +kernel)
            exact doesZ_read (v := .func (.func 46) #[] #[.pointer (some ⟨lb, 0, none⟩), .pointer (some ⟨sb, 0, none⟩)]) (by decide) rfl (ex_move rfl e5) hI rfl
          · intro a w5 r hF hI hns hri h1 h2 hd
            have e33 : a.eval (.tmp 33) = .func (.func 46) #[] #[.pointer (some ⟨lb, 0, none⟩), .pointer (some ⟨sb, 0, none⟩)] := hd 2 (by decide +kernel)
            have hA : (LA N w rb lb sb xb Z0 XF (.slice pa k pq) k CS CS1 PG lk lk1) 0 r w5 := hI.at_ 0 (.inl rfl) (.inr ⟨by decide, hri⟩)
            have hA : PJ N w rb lb sb Z0 lk w5 ∧ Blk w5 xb 27 (XF (.slice pa k pq)) ∧ w5.ownsRow (xb + 1) 45 33 (.slice pa k pq) k CS := hA
            exact doesZ_call (by decide) rfl (ex_call_clo rfl e33 (by go_simp)) ((HRF.out w5 hA.1).mono fun e w6 hh => by obtain ⟨v, he, rfl, hrs, hg⟩ := hh; exact ⟨_, he, hI.next 0 3 _ rfl (by decide) (.inl rfl) hri (by decide) ⟨hrs, hA.2.1.grown hg (fun e => by have := RXB.out; have := Option.some.inj e; omega), ownsT_turn hA.2.2 hg (.inl (by have := RXB.out; omega))⟩, rfl⟩)
          · intro a w5 r hF hI hns hri h1 h2 hd
            have e34 : a.eval (.tmp 34) = .agg PG.toArray := hd 3 (by decide +kernel)
            have hA : (LA N w rb lb sb xb Z0 XF (.slice pa k pq) k CS CS1 PG lk lk1) 1 r w5 := hI.at_ 1 (.inr ⟨by decide, h2 3 (by decide) (by decide +kernel)⟩) (.inr ⟨by decide, hri⟩)
            have hA : PJ N w rb lb sb Z0 lk1 w5 ∧ Blk w5 xb 27 (XF (.slice pa k pq)) ∧ w5.ownsRow (xb + 1) 45 33 (.slice pa k pq) k CS := hA
            have bA := (Below.refl w5.heap.size w5).alloc (Nat.le_refl _) (.cells PG.toArray 45)
            exact doesZ_one (by decide) rfl (.tmp 34) 25 45 33 36 zref PG rfl Tryd.underlying25 infoRef (by decide) (by decide) PGL.out e34 ⟨hI.next 1 4 _ rfl (by decide) (.inr ⟨by decide, h2 3 (by decide) (by decide +kernel)⟩) hri (by decide) ⟨hA.1.on bA, hA.2.1.below bA hA.2.1.lt, ownsT_on hA.2.2 bA, _, Told.set_same _ _ _, rdT_one w5 45 PG 33 PGL.out⟩, _, Told.set_same _ _ _, rfl⟩
          · intro a w5 r hF hI hns hri h1 h2 hd
            have e32 : a.eval (.tmp 32) = .slice pa k pq := hd 1 (by decide +kernel)
            obtain ⟨u35, hu35, e35⟩ : ∃ u, r 4 = some u ∧ a.eval (.tmp 35) = u := hd 4 (by decide +kernel)
            have hA : (LA N w rb lb sb xb Z0 XF (.slice pa k pq) k CS CS1 PG lk lk1) 2 r w5 := hI.at_ 2 (.inr ⟨by decide, h2 4 (by decide) (by decide +kernel)⟩) (.inr ⟨by decide, hri⟩)
            have hA : PJ N w rb lb sb Z0 lk1 w5 ∧ Blk w5 xb 27 (XF (.slice pa k pq)) ∧ w5.ownsRow (xb + 1) 45 33 (.slice pa k pq) k CS ∧ ∃ v, r 4 = some v ∧ RdT 33 w5 v 1 PG := hA
            obtain ⟨hA1, hA2, hA3, v4, hv4, hrd⟩ := hA
            obtain rfl := Option.some.inj (hv4.symm.trans hu35)
            exact doesZ_appT (by decide) rfl (.tmp 32) (.tmp 35) 25 45 33 36 zref rfl Tryd.underlying25 infoRef zref_len (by decide) (by decide) (xb + 1) _ _ k 1 CS PG e32 e35 hA3 hrd PGO.out (by have := K8.out; omega) hA2.lt (fun v' w' ho hg hk => ⟨hI.next 2 5 _ rfl (by decide) (.inr ⟨by decide, h2 4 (by decide) (by decide +kernel)⟩) hri (by decide) ⟨hA1.turn hg (fun c e => by have := World.ownsRow.lt hA3 c e; have := RXB.out; omega), hA2.grown hg (fun e => by have := World.ownsRow.lt hA3 _ e.symm; omega), v', Told.set_same _ _ _, by rw [HCS.out]; exact ho⟩, v', Told.set_same _ _ _, rfl⟩)
          · intro a w5 r hF hI hns hri h1 h2 hd
            have e6 : a.eval (.tmp 6) = .pointer (some ⟨xb, 0, none⟩) := hF 6 (by decide +kernel)
            exact doesZ_read (v := .pointer (some ⟨xb, 67, none⟩)) (by decide) rfl (ex_fieldAddr rfl e6 (by go_simp)) hI rfl
          · intro a w5 r hF hI hns hri h1 h2 hd
            have e37 : a.eval (.tmp 37) = .pointer (some ⟨xb, 67, none⟩) := hd 6 (by decide +kernel)
            obtain ⟨u36, hu36, e36⟩ : ∃ u, r 5 = some u ∧ a.eval (.tmp 36) = u := hd 5 (by decide +kernel)
            have hA : (LA N w rb lb sb xb Z0 XF (.slice pa k pq) k CS CS1 PG lk lk1) 3 r w5 := hI.at_ 3 (.inr ⟨by decide, h2 5 (by decide) (by decide +kernel)⟩) (.inr ⟨by decide, hri⟩)
            have hA : PJ N w rb lb sb Z0 lk1 w5 ∧ Blk w5 xb 27 (XF (.slice pa k pq)) ∧ ∃ v, r 5 = some v ∧ w5.ownsRow (xb + 1) 45 33 v (k + 1) CS1 := hA
            obtain ⟨hA1, hA2, v5, hv5, ho5⟩ := hA
            obtain rfl := Option.some.inj (hv5.symm.trans hu36)
            obtain ⟨pa5, pq5, rfl, _⟩ := (owned_rd ho5).shape
            exact doesZ_put1 (by decide) rfl 25 (.tmp 37) (.tmp 36) rfl xb 67 e37 _ e36 27 (XF (.slice pa k pq)) hA2 (by rw [XFL.out]; decide) infoRefsP rfl rfl rfl (fun w' b' g' => by rw [XFS.out] at b'; exact hI.next 3 7 _ rfl (by decide) (.inr ⟨by decide, h2 5 (by decide) (by decide +kernel)⟩) hri (by decide) ⟨hA1.turn g' (fun c e => by have := Option.some.inj e; have := RXB.out; omega), _, by rw [Told.set_ne (by decide)]; exact hv5, ownsT_turn ho5 g' (.inl (Nat.lt_succ_self _)), b'⟩)
        · intro vs r w7 hI hS hvs
          have hz : PJ N w rb lb sb Z0 lk1 w7 ∧ ∃ v, r 5 = some v ∧ w7.ownsRow (xb + 1) 45 33 v (k + 1) CS1 ∧ Blk w7 xb 27 (XF v) := hI.at_ 4 (.inr ⟨by decide, hS 7 (by decide)⟩) (.inl rfl)
          obtain ⟨hP, v5, _, hx2, hx3⟩ := hz
          obtain ⟨pa5, pq5, rfl, _⟩ := (owned_rd hx2).shape
          rw [HLK1.out] at hP
          rw [HCS1.out] at hx2
          have HP := Lib.hid hP
          have X7 := Lib.hid hx3
          have O7 := Lib.hid hx2
          clear hI hS hvs hP hx2 hx3
          simp only [putOps, Act.put, List.setIfInBounds_toArray, List.set_cons_zero, List.set_cons_succ]
          generalize vs 0 = y0; generalize vs 1 = y1; generalize vs 2 = y2; generalize vs 3 = y3; generalize vs 4 = y4; generalize vs 5 = y5; generalize vs 6 = y6
          go_wp2_with fail
          exact ⟨⟨k + 1, pa5, pq5, by omega, by first | rfl | (rw [← aw]; rfl) | simp, HP.out, X7.out, O7.out⟩, by simp [intOf]; omega⟩
      · obtain rfl : k = KP := by omega
        have hkk : ¬ (k : Int) < (k : Int) := by omega
        have RS := Lib.hid I0.out.res
        have WB := Lib.hid I0.out.bel
        go_wp2_with (first
          | (refine wpList_load_mid rfl 27 (.tmp 6) rfl xb 0 rfl (XF (.slice pa k pq)) _ X0.out.range Tryd.underlying27 rfl (by rw [XFL.out]; exact infoRtP) ?_)
          | (refine wpList_store_blk rfl 27 (.tmp 2) (.tmp 39) rfl w.heap.size 0 (XF (.slice pa k pq)) rfl rfl 27 Z0 RS.out (by have := XFL.out (.slice pa k pq); have := Z68.out; omega) (by rw [XFL.out]; exact infoRtP) (XF1.out _ _ _) ?_; intro w9 b9 g9; rw [splice_all _ _ (by have := XFL.out (.slice pa k pq); have := Z68.out; omega)] at b9; have R9 := Lib.hid b9; have W9 := Lib.hid (WB.out.grown g9 WB.out.size (fun q e => by have := Option.some.inj e; omega)); have O9 := Lib.hid (ownsT_turn O0.out g9 (.inl (by have := RXB.out; omega))); clear b9 g9))
        refine bodyPost_ret (results_mid rfl _ _ w.heap.size (XF (.slice pa k pq)) _ rfl R9.out.range Tryd.underlying27 rfl (by rw [XFL.out]; exact infoRtP)) rfl ⟨.slice pa k pq, by rw [HXF.out], ?_, W9.out⟩
        rw [HPN.out.1, HPN.out.2]
        exact ownT_lower O9.out (by have := RXB.out; omega)
end Go.Proofs.YtenigdbnfepkeaaDoor
