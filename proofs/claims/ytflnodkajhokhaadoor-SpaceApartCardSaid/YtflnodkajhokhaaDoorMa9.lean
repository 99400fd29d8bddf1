/- Texts of 5 subjects in one file: XtsP, SuB, NdP, SpQA, NdPX. Own work. -/
import Derived.Test.YtflnodkajhokhaaDoorMa1
import Derived.Test.YtflnodkajhokhaaDoorMa0
import Derived.WalkKit
import Derived.Test.YtflnodkajhokhaaDoorMa5
import Derived.Test.YtflnodkajhokhaaDoorMa4
import Derived.Test.YtflnodkajhokhaaDoorMa8
import Derived.Test.YtflnodkajhokhaaDoorMa3
import Derived.Test.YtflnodkajhokhaaDoorMa7
import Derived.Test.YtflnodkajhokhaaDoorMa2
import Derived.Deep.DeepCutAuto
import Derived.Laws.MakeOwn
import Derived.BigQuiet
import Derived.BigRegion
import Derived.LaidEqlPtr
import Derived.Deep.RegionWith
import Derived.Test.YtflnodkajhokhaaDoorMa6
section
namespace Go.Proofs.YtflnodkajhokhaaDoor
open Go.ChangeShapes Go.WideShapes Go.ChangeAt Go.RowKit
theorem run_makeFunc (fn : Fn) (first cap : Array Value) (w : World) : (Instr.makeFunc fn first cap).run Tryd.prog w = .ok (.func fn first cap) w := rfl
theorem ex_call_fn {o : Oper} {a : Act} {w : World} {t : Operand} {g : FuncId} {r : Value} {xs : Array Operand} {ts : Array TypeId} {vs : Array Value} (ho : o.op = .call { callee := .value t, args := xs, argTypes := ts }) (ht : a.eval t = .func (.func g) #[r] #[]) (hx : xs.map a.eval = vs) (hf : (callFunc g (#[r] ++ vs)).run Tryd.prog w = .ok (.enter g (#[r] ++ vs)) w) : (execOp a.eval o).run Tryd.prog w = .ok (.enter g (#[r] ++ vs)) w := by
  subst hx
  obtain ⟨ρ, hρ⟩ : ∃ ρ, ρ = a.eval := ⟨_, rfl⟩
  rw [<- hρ] at ht hf ⊢
  unfold execOp
  rw [ho]
  simp only [resolve, ht]
  go_simp
  rw [<- hρ]
  exact hf
end Go.Proofs.YtflnodkajhokhaaDoor
namespace Go.Proofs.YtflnodkajhokhaaDoor
open Go.ChangeShapes Go.WideShapes Go.ChangeAt Go.RowKit
open AM FM XM
set_option maxRecDepth 100000 in
set_option maxHeartbeats 1000000 in
theorem laid_any (n : Nat) (w : World) :
    Calls Tryd.prog 77 #[.int .u64 (n : Int)] w fun e w' => e = .returned (.agg (row8 (XM.num n)).toArray) /\ Below w.heap.size w w' := by
  obtain ⟨D0, hD0⟩ : ∃ D0, D0 = row8 (List.replicate 16 0) := ⟨_, rfl⟩
  have hz : ∀ w, (zeroValue 96).run Tryd.prog w = .ok (.agg D0.toArray) w := by rw [hD0]; exact zero16
  have hd0 : D0.length = 16 := by rw [hD0, row8_len, List.length_replicate]
  have w1 := (Below.refl w.heap.size w).alloc (Nat.le_refl _) (.cells D0.toArray 96)
  have w2 := w1.alloc w1.size (.cells D0.toArray 96)
  have R0 := Lib.hid ((Blk.new w 96 D0 _ rfl).alloc (.cells D0.toArray 96))
  have N0 := Lib.hid (Blk.new (w.alloc (.cells D0.toArray 96)) 96 D0 (w.heap.size + 1) (by simp))
  have B0 := Lib.hid w2
  obtain ⟨M, hM⟩ : ∃ M, M = XM.num n := ⟨_, rfl⟩
  rw [<- hM]
  have M16 := Lib.hid (show (row8 M).length = 16 by rw [hM, row8_len]; exact (num_bytes n).1)
  have HM := Lib.hid hM
  have HD := Lib.hid hD0
  clear hD0 w1 w2 hM
  go_enter Tryd.func77, Tryd.ntmps77
  go_wp2_with fail
  go_loopw [5] (fun x wr => ∃ k : Nat, k <= 8 /\ x = .int .i64 (k : Int) /\ Blk wr w.heap.size 96 D0 /\ Blk wr (w.heap.size + 1) 96 (row8 (numTo n k)) /\ Below w.heap.size w wr) (fun x _ => 8 - (intOf x).toNat)
  case atStart => exact ⟨0, by omega, rfl, R0.out, by rw [numTo_zero, <- HD.out]; exact N0.out, B0.out⟩
  case round =>
    clear R0 N0 B0
    obtain ⟨k, hk, rfl, r0, n0, b0⟩ := hrel
    by_cases h8 : k < 8
    . have h8I : (k : Int) < 8 := by omega
      have d := n0.cell k _ (row8_val _ k (by rw [numTo_len]; omega))
      have f := n0.free k
      have hs := shr_num n k
      have q1 : (0 : Int) <= 8 * (k : Int) := by omega
      have q2 : (8 * (k : Int)).toNat = 8 * k := by omega
      have R1 := Lib.hid r0
      have N1 := Lib.hid n0
      have B1 := Lib.hid b0
      clear r0 n0 b0
      go_wp2_with fail
      have nt := N1.out.set k (.int .u8 ((n / 256 ^ k % 256 : Nat) : Int))
      rw [row8_set, numTo_step n k h8] at nt
      exact ⟨⟨k + 1, by omega, by go_num, R1.out.other ⟨w.heap.size + 1, k, none⟩ _ (by simp <;> omega), nt, B1.out.setCell (p := ⟨w.heap.size + 1, k, none⟩) (by simp <;> omega) _⟩, by simp [intOf]; omega⟩
    . obtain rfl : k = 8 := by omega
      rw [numTo_all, <- HM.out] at n0
      have R1 := Lib.hid r0
      have N1 := Lib.hid n0
      have B1 := Lib.hid b0
      clear r0 n0 b0
      go_wp2_with (first
        | (refine wpList_load_mid rfl 96 (.tmp 3) rfl (w.heap.size + 1) 0 rfl (row8 M) _ N1.out.range Tryd.underlying96 rfl (by rw [M16.out]; exact info16) ?_)
        | (refine wpList_store_mid rfl 96 (.tmp 2) (.tmp 16) rfl w.heap.size 0 (row8 M).toArray rfl rfl (R1.out.there _ (by rw [List.size_toArray, M16.out, hd0])) (by rw [List.size_toArray, M16.out]; exact info16) (row8_one _) ?_))
      have fin := R1.out.whole (row8 M) (by rw [M16.out, hd0])
      exact bodyPost_ret (v := .agg (row8 M).toArray) (results_mid rfl _ _ w.heap.size (row8 M) _ rfl fin.range Tryd.underlying96 rfl (by rw [M16.out]; exact info16)) rfl ⟨rfl, below_setCells w.heap.size (Nat.le_refl _) _ 0 _ B1.out⟩
set_option maxRecDepth 100000 in
set_option maxHeartbeats 1000000 in
theorem tweaked_any (a b : List Nat) (ha : Bytes 16 a) (hb : Bytes 16 b) (w : World) :
    Calls Tryd.prog 78 #[.agg (row8 a).toArray, .agg (row8 b).toArray] w fun e w' => e = .returned (.agg (row8 (ax a b)).toArray) /\ Below w.heap.size w w' := by
  obtain ⟨C0, hC0⟩ : ∃ C0, C0 = row8 (List.replicate 16 0) := ⟨_, rfl⟩
  have hz : ∀ w, (zeroValue 96).run Tryd.prog w = .ok (.agg C0.toArray) w := by rw [hC0]; exact zero16
  have hc0 : C0.length = 16 := by rw [hC0, row8_len, List.length_replicate]
  have w1 := (Below.refl w.heap.size w).alloc (Nat.le_refl _) (.cells (row8 a).toArray 96)
  have w2 := w1.alloc w1.size (.cells (row8 b).toArray 96)
  have w3 := w2.alloc w2.size (.cells C0.toArray 96)
  have N0 := Lib.hid (((Blk.new w 96 (row8 a) _ rfl).alloc (.cells (row8 b).toArray 96)).alloc (.cells C0.toArray 96))
  have N1 := Lib.hid ((Blk.new (w.alloc (.cells (row8 a).toArray 96)) 96 (row8 b) (w.heap.size + 1) (by simp)).alloc (.cells C0.toArray 96))
  have N2 := Lib.hid (Blk.new ((w.alloc (.cells (row8 a).toArray 96)).alloc (.cells (row8 b).toArray 96)) 96 C0 (w.heap.size + 1 + 1) (by simp))
  have W3 := Lib.hid w3
  have HA := Lib.hid ha
  have HB := Lib.hid hb
  obtain ⟨M, hM⟩ : ∃ M, M = ax a b := ⟨_, rfl⟩
  rw [<- hM]
  have HM := Lib.hid hM
  have M16 := Lib.hid (show (row8 M).length = 16 by rw [hM, row8_len]; exact row_len _)
  have B16 := Lib.hid (show (row8 b).length = 16 by rw [row8_len]; exact hb.1)
  clear hC0 w1 w2 w3 ha hb hM
  go_enter Tryd.func78, Tryd.ntmps78
  go_wp2_with (refine wpList_load_mid rfl 96 (.tmp 3) rfl (w.heap.size + 1) 0 rfl (row8 b) _ N1.out.range Tryd.underlying96 rfl (by rw [B16.out]; exact info16) ?_)
  go_loopw [8] (fun i wr => ∃ k : Nat, k <= 16 /\ i = .int .i64 (k : Int) /\ Blk wr w.heap.size 96 (row8 (axTo a b k)) /\ Blk wr (w.heap.size + 1 + 1) 96 C0 /\ Below w.heap.size w wr) (fun i _ => 16 - (intOf i).toNat)
  case atStart => exact ⟨0, Nat.zero_le _, rfl, by rw [axTo_zero HA.out.1]; exact N0.out, N2.out, W3.out⟩
  case round =>
    clear N0 N1 N2 W3
    obtain ⟨k, hk, rfl, b0, b2, bb⟩ := hrel
    by_cases hlt : k < 16
    . have c0 := b0.cell k _ (row8_val _ k (by rw [axTo_len]; exact hlt))
      rw [axTo_get _ _ _ _ hlt, if_neg (by omega)] at c0
      have hix := run_index_row 96 5 16 (row8 b).toArray k (.int .u8 (gb b k)) Tryd.underlying96 hlt info8a agg8a (row8_get b k (by rw [HB.out.1]; exact hlt))
      have f0 := b0.free k
      have hxr := u8_xor_nat (gb a k) (gb b k) (HA.out.2 k) (HB.out.2 k)
      have B0 := Lib.hid b0
      have B2 := Lib.hid b2
      have BB := Lib.hid bb
      clear b0 b2 bb
      go_wp2_with fail
      have nb0 := B0.out.set k (.int .u8 ((gb a k ^^^ gb b k : Nat) : Int))
      rw [row8_set, axTo_step _ _ _ hlt] at nb0
      exact ⟨⟨k + 1, by omega, by go_num, nb0, B2.out.other ⟨w.heap.size, k, none⟩ _ (by simp <;> omega), BB.out.setCell (p := ⟨w.heap.size, k, none⟩) (Nat.le_refl _) _⟩, by simp [intOf]; omega⟩
    . obtain rfl : k = 16 := by omega
      rw [axTo_all, <- HM.out] at b0
      have B0 := Lib.hid b0
      have B2 := Lib.hid b2
      have BB := Lib.hid bb
      clear b0 b2 bb
      go_wp2_with (first
        | (refine wpList_load_mid rfl 96 (.tmp 2) rfl w.heap.size 0 rfl (row8 M) _ B0.out.range Tryd.underlying96 rfl (by rw [M16.out]; exact info16) ?_)
        | (refine wpList_store_mid rfl 96 (.tmp 4) (.tmp 19) rfl (w.heap.size + 1 + 1) 0 (row8 M).toArray rfl rfl (B2.out.there _ (by rw [List.size_toArray, M16.out, hc0])) (by rw [List.size_toArray, M16.out]; exact info16) (row8_one _) ?_))
      have fin := B2.out.whole (row8 M) (by rw [M16.out, hc0])
      exact bodyPost_ret (v := .agg (row8 M).toArray) (results_mid rfl _ _ (w.heap.size + 1 + 1) (row8 M) _ rfl fin.range Tryd.underlying96 rfl (by rw [M16.out]; exact info16)) rfl ⟨rfl, below_setCells (w.heap.size + 1 + 1) (by omega) _ 0 _ BB.out⟩
end Go.Proofs.YtflnodkajhokhaaDoor
namespace Go.Proofs.YtflnodkajhokhaaDoor
open Go.ChangeShapes Go.WideShapes Go.ChangeAt Go.RowKit
open AM FM XM
namespace XM
def bt (T : List Nat -> List Nat) (t x : List Nat) : List Nat := ax (T (ax x t)) t
theorem splice_more (R : List Nat) (o : Nat) (A B : List Nat) (h : o + A.length <= R.length) : splice (splice R o A) (o + A.length) B = splice R o (A ++ B) := by
  unfold splice
  have hl : (R.take o ++ A).length = o + A.length := by rw [List.length_append, List.length_take]; omega
  have e1 : (R.take o ++ (A ++ R.drop (o + A.length))).take (o + A.length) = R.take o ++ A := by
    rw [<- List.append_assoc]; exact List.take_left' hl
  have e2 : (R.take o ++ (A ++ R.drop (o + A.length))).drop (o + A.length + B.length) = R.drop (o + (A ++ B).length) := by
    rw [<- List.append_assoc, List.drop_append, hl, List.drop_eq_nil_of_le (by rw [hl]; omega), List.nil_append, List.drop_drop, List.length_append]
    congr 1; omega
  rw [e1, e2, List.append_assoc, List.append_assoc]
def under (T : List Nat -> List Nat) (t : Nat -> List Nat) (R : List Nat) (o k : Nat) : List Nat := splice R o (bw (fun q => bt T (t q)) ((R.drop o).take 512) k)
theorem under_blocks (T : List Nat -> List Nat) (t : Nat -> List Nat) (b : List Nat) (k : Nat) : (bw (fun q => bt T (t q)) b k).length = 16 * k := bw_len k fun _ _ => row_len _
theorem under_zero (T : List Nat -> List Nat) (t : Nat -> List Nat) (R : List Nat) (o : Nat) : under T t R o 0 = R := by
  unfold under bw; exact splice_nil R o
theorem under_len (T : List Nat -> List Nat) (t : Nat -> List Nat) (R : List Nat) (o k : Nat) (h : o + 512 <= R.length) (hk : k <= 32) : (under T t R o k).length = R.length :=
  splice_len8 _ _ _ (by rw [under_blocks]; omega)
theorem under_step (T : List Nat -> List Nat) (t : Nat -> List Nat) (R : List Nat) (o k : Nat) (h : o + 512 <= R.length) (hk : k < 32) : splice (row8 (under T t R o k)) (o + 16 * k) (row8 (bt T (t k) (blk ((R.drop o).take 512) k))) = row8 (under T t R o (k + 1)) := by
  rw [<- row8_splice8]
  have e := splice_more R o (bw (fun q => bt T (t q)) ((R.drop o).take 512) k) (bt T (t k) (blk ((R.drop o).take 512) k)) (by rw [under_blocks]; omega)
  rw [under_blocks] at e
  unfold under
  rw [e]; rfl
theorem under_part (T : List Nat -> List Nat) (t : Nat -> List Nat) (R : List Nat) (o k : Nat) (h : o + 512 <= R.length) (hk : k < 32) (j : Nat) (v : Value) (hv : (row8 (blk ((R.drop o).take 512) k))[j]? = some v) : (row8 (under T t R o k))[o + 16 * k + j]? = some v := by
  have hl : (blk ((R.drop o).take 512) k).length = 16 := blk_len _ _ (by rw [List.length_take, List.length_drop]; omega)
  by_cases hj : j < 16
  . rw [row8_val _ _ (by omega)] at hv
    rw [row8_val _ _ (by rw [under_len T t R o k h (by omega)]; omega), <- hv]
    congr 3
    unfold under
    rw [splice_get _ _ _ (by rw [under_blocks]; omega), under_blocks, if_neg (by omega), if_neg (by omega)]
    unfold blk
    rw [gb_take _ _ _ hj, gb_drop, gb_take _ _ _ (by omega), gb_drop, Nat.add_assoc]
  . rw [List.getElem?_eq_none (by rw [row8_len]; omega)] at hv; cases hv
end XM
theorem only_mix {a b c : World} {row : Option Nat} {t : Nat} (h : a.grownBy b row) (k : b.grownBy c (some t)) (ht : a.heap.size <= t) : a.grownBy c row :=
  ⟨k.os.trans h.os, k.tape.trans h.tape, k.output.trans h.output, Nat.le_trans h.size k.size, fun i hi hne => (k.block i (Nat.lt_of_lt_of_le hi h.size) (by intro q; have := Option.some.inj q; omega)).trans (h.block i hi hne)⟩
theorem put_nothing (a : Act) (v : Value) : a.put none v = a := rfl
theorem run_array_at (a : Addr) (n c : Nat) (h : 16 <= n) (w : World) : (Instr.arrayAt 96 (.slice (some a) n c)).run Tryd.prog w = .ok (.pointer (some a)) w := by
  have q : ¬ n < 16 := by omega
  simp [Instr.arrayAt, run_underlying Tryd.underlying96, q, go_sem]
set_option linter.unusedVariables false in
set_option maxRecDepth 100000 in
set_option maxHeartbeats 4000000 in
theorem psector_any (T : List Nat -> List Nat) (hTB : ∀ s, Bytes 16 s -> Bytes 16 (T s)) (F : FuncId) (r : Value) (hF : ∀ a w, (callFunc F (#[r] ++ #[a])).run Tryd.prog w = .ok (.enter F (#[r] ++ #[a])) w)
    (x d : Nat) (p : Value) (L : List Nat) (n : Nat) (g o : Nat) (R : List Nat) (hR : ∀ k, gb R k < 256) (ho : o + 512 <= R.length) (w : World) (hg : Blk w g 5 (row8 R))
    (hx : Blk w x 75 [p, .pointer (some ⟨d, 0, none⟩)]) (hd : Cph w d L) (ht : TabX w) (hxg : x ≠ g) (hdg : d ≠ g) (htg : g ≠ 1)
    (hT : ∀ W, w.grownBy W (some g) -> ∀ s, Bytes 16 s -> Calls Tryd.prog F (#[r] ++ #[.agg (row8 s).toArray]) W fun e W' => e = .returned (.agg (row8 (T s)).toArray) /\ Below W.heap.size W W') :
    Calls Tryd.prog 60 #[.pointer (some ⟨x, 0, none⟩), .int .u64 (n : Int), .slice (some ⟨g, o, none⟩) 512 512, .func (.func F) #[r] #[]] w fun e w' => e = .returned (.tuple #[]) /\ Blk w' g 5 (row8 (under T (tweak (keys L) n) R o 32)) /\ w.grownBy w' (some g) := by
  have hk2 : ∀ m, Bytes 16 (keys L m) := keys_bytes hd.1
  obtain ⟨b, hb⟩ : ∃ b, b = (R.drop o).take 512 := ⟨_, rfl⟩
  have hbl : b.length = 512 := by rw [hb, List.length_take, List.length_drop]; omega
  have hbb : ∀ k, gb b k < 256 := by rw [hb]; exact gb_take_byte _ _ fun k => by rw [gb_drop]; exact hR _
  obtain ⟨t, ht0⟩ : ∃ t, t = tweak (keys L) n := ⟨_, rfl⟩
  have htB : ∀ m, Bytes 16 (t m) := by rw [ht0]; exact tweak_bytes hk2 n
  have hnext : ∀ m, tw (t m) = t (m + 1) := by rw [ht0]; intro m; rfl
  obtain ⟨M, hM⟩ : ∃ M, M = XM.num n := ⟨_, rfl⟩
  have hMB : Bytes 16 M := by rw [hM]; exact num_bytes n
  have hfirst : enc (rk (sched L)) M = t 0 := by rw [ht0, hM]; rfl
  obtain ⟨S, hS⟩ : ∃ S, S = under T t R o := ⟨_, rfl⟩
  have hS0 : S 0 = R := by rw [hS]; exact under_zero _ _ _ _
  have HSL := Lib.hid (fun k (h : k <= 32) => (show (S k).length = R.length by rw [hS]; exact under_len _ _ _ _ _ ho h))
  have HST := Lib.hid (fun k (h : k < 32) => (show splice (row8 (S k)) (o + 16 * k) (row8 (bt T (t k) (blk b k))) = row8 (S (k + 1)) by rw [hS, hb]; exact under_step _ _ _ _ _ ho h))
  have HPT := Lib.hid (fun k (h : k < 32) j v (hv : (row8 (blk b k))[j]? = some v) => (show (row8 (S k))[o + 16 * k + j]? = some v by rw [hS]; rw [hb] at hv; exact under_part _ _ _ _ _ ho h j v hv))
  rw [<- ht0, <- hS]
  obtain ⟨D0, hD0⟩ : ∃ D0, D0 = row8 (List.replicate 16 0) := ⟨_, rfl⟩
  have hz : ∀ w, (zeroValue 96).run Tryd.prog w = .ok (.agg D0.toArray) w := by rw [hD0]; exact zero16
  have hd0 : D0.length = 16 := by rw [hD0, row8_len, List.length_replicate]
  have HLD := Lib.hid (fun W => laid_any n W)
  rw [<- hM] at HLD
  have HEN := Lib.hid (fun W (h : Below w.heap.size w W) => cph_enc L d M hMB W (hd.below h) (ht.below h))
  rw [hfirst] at HEN
  have H2 := Lib.hid (fun m W => twice_any (t m) (htB m) W)
  have T16 := Lib.hid (fun m => (show (row8 (t m)).length = 16 by rw [row8_len]; exact (htB m).1))
  have HX := Lib.hid hx
  have HG := Lib.hid hg
  have HTB := Lib.hid htB
  have HTT := Lib.hid hTB
  have HBL := Lib.hid hbl
  have HBB := Lib.hid hbb
  have HNX := Lib.hid hnext
  have HTC := Lib.hid hT
  have HFE := Lib.hid hF
  have HS0 := Lib.hid hS0
  have HO := Lib.hid ho
  have HXG := Lib.hid hxg
  clear hx hg hd ht hR ho hxg hdg htg hT hTB hk2 hb hbl hbb ht0 htB hnext hM hMB hfirst hS hS0 hF hD0
  go_enter Tryd.func60, Tryd.ntmps60
  go_upto_region 0 with (fail)
  refine wp_region_g (by kernel_rfl) 8 (by decide) (by kernel_rfl) (by kernel_rfl) (by kernel_rfl) w.heap.size (Nat.le_refl _) [.val (.pointer (some ⟨x, 0, none⟩)), .val (.pointer (some ⟨x, 0, none⟩)), .val (.pointer (some ⟨x, 1, none⟩)), .val (.pointer (some ⟨d, 0, none⟩)), .val (.int .u64 (n : Int)), .val (.agg (row8 M).toArray), .val (.agg (row8 (t 0)).toArray), .blk 96 D0] (fun _ => 9) ?_ ?_
  . refine ⟨?_, ?_, ?_, ?_, ?_, ?_, ?_, ?_, trivial⟩
    . intro a w' hF hB hd
      have e0 : a.eval (.tmp 0) = .pointer (some ⟨x, 0, none⟩) := hF 0 (by decide +kernel)
      exact doesG_val rfl (ex_move rfl e0) rfl rfl
    . intro a w' hF hB hd
      have e11 : a.eval (.tmp 11) = .pointer (some ⟨x, 0, none⟩) := hd 0 (by decide +kernel) (.inr (by decide))
      exact doesG_val rfl (v := .pointer (some ⟨x, 0, none⟩)) (by unfold execOp; simp only [e11]; go_simp) rfl rfl
    . intro a w' hF hB hd
      have e12 : a.eval (.tmp 12) = .pointer (some ⟨x, 0, none⟩) := hd 1 (by decide +kernel) (.inr (by decide))
      exact doesG_val rfl (v := .pointer (some ⟨x, 1, none⟩)) (by unfold execOp; simp only [e12]; go_simp) rfl rfl
    . intro a w' hF hB hd
      have e13 : a.eval (.tmp 13) = .pointer (some ⟨x, 1, none⟩) := hd 2 (by decide +kernel) (.inr (by decide))
      have c := (HX.out.below hB HX.out.lt).cell 1 _ rfl
      exact doesG_val rfl (v := .pointer (some ⟨d, 0, none⟩)) (by unfold execOp; simp only [e13]; go_simp) rfl rfl
    . intro a w' hF hB hd
      have e1 : a.eval (.tmp 1) = .int .u64 (n : Int) := hF 1 (by decide +kernel)
      exact doesG_val rfl (ex_move rfl e1) rfl rfl
    . intro a w' hF hB hd
      have e15 : a.eval (.tmp 15) = .int .u64 (n : Int) := hd 4 (by decide +kernel) (.inr (by decide))
      exact doesG_call rfl (ex_call (vs := #[.int .u64 (n : Int)]) rfl (by simp only [List.map_toArray, List.map_cons, List.map_nil, e15]) (by go_simp)) rfl ((HLD.out w').mono fun e w2 hh => by
        obtain ⟨rfl, hb⟩ := hh
        exact ⟨_, rfl, rfl, hb⟩)
    . intro a w' hF hB hd
      have e14 : a.eval (.tmp 14) = .pointer (some ⟨d, 0, none⟩) := hd 3 (by decide +kernel) (.inr (by decide))
      have e16 : a.eval (.tmp 16) = .agg (row8 M).toArray := hd 5 (by decide +kernel) (.inr (by decide))
      exact doesG_call rfl (ex_call (vs := #[.pointer (some ⟨d, 0, none⟩), .agg (row8 M).toArray]) rfl (by simp only [List.map_toArray, List.map_cons, List.map_nil, e14, e16]) (by go_simp)) rfl ((HEN.out w' hB).mono fun e w2 hh => by
        obtain ⟨rfl, hb⟩ := hh
        exact ⟨_, rfl, rfl, hb⟩)
    . intro a w' hF hB hd
      exact doesG_alloc rfl 96 D0 rfl hz hB.size rfl
  . intro vs w1 hB hv hap
    have e17 : vs 6 = .agg (row8 (t 0)).toArray := hv 6 (by decide) (by decide)
    obtain ⟨tb, e8, hbt, htb⟩ : ∃ c, vs 7 = .pointer (some ⟨c, 0, none⟩) /\ w.heap.size <= c /\ Blk w1 c 96 D0 := hv 7 (by decide) (by decide)
    simp only [List.take_succ_cons, List.take_zero, List.drop_succ_cons, List.drop_zero, putOps, Act.put, List.setIfInBounds_toArray, List.set_cons_zero, List.set_cons_succ, e17, e8]
    have N1 := Lib.hid htb
    have R1 := Lib.hid (HG.out.below hB HG.out.lt)
    have G1 := Lib.hid (grown_of_below hB (some g))
    have HBT := Lib.hid hbt
    have hgt : g ≠ tb := by have := HG.out.lt; omega
    clear hv hap htb hB e17 e8 hbt
    generalize vs 0 = v0 at *
    generalize vs 1 = v1 at *
    generalize vs 2 = v2 at *
    generalize vs 3 = v3 at *
    generalize vs 4 = v4 at *
    generalize vs 5 = v5 at *
    go_wp2_with (refine wpList_store_blk rfl 96 (.tmp 8) (.tmp 17) rfl tb 0 (row8 (t 0)) rfl rfl 96 D0 N1.out (by rw [T16.out, hd0]; exact Nat.le_refl _) (by rw [T16.out]; exact info16) (row8_one _) ?_; intro w2 b2 g2; rw [splice_all _ _ (by rw [T16.out, hd0])] at b2; have N2 := Lib.hid b2; have R2 := Lib.hid (R1.out.grown g2 (fun q => by have e : g = tb := Option.some.inj q; omega)); have G2 := Lib.hid (only_mix G1.out g2 HBT.out); clear b2 g2)
    clear N1 R1 G1 HEN HX HG HLD
    go_loopw [9] (fun i wr => ∃ k : Nat, k <= 32 /\ i = .int .i64 (16 * (k : Int)) /\ Blk wr g 5 (row8 (S k)) /\ Blk wr tb 96 (row8 (t k)) /\ w.grownBy wr (some g)) (fun i _ => 512 - (intOf i).toNat)
    case atStart => exact ⟨0, by omega, rfl, by rw [HS0.out]; exact R2.out, N2.out, G2.out⟩
    case round =>
      clear R2 N2 G2
      obtain ⟨k, hk, rfl, r0, n0, g0⟩ := hrel
      by_cases hlt : k < 32
      . have hltI : 16 * (k : Int) < 512 := by omega
        obtain ⟨D, hD⟩ : ∃ D, D = blk b k := ⟨_, rfl⟩
        have bD : Bytes 16 D := by rw [hD]; exact blk_bytes HBB.out k (by rw [HBL.out]; omega)
        have D16 := Lib.hid (show (row8 D).length = 16 by rw [row8_len]; exact bD.1)
        have hpt := HPT.out k hlt
        have hst := HST.out k hlt
        rw [<- hD] at hpt hst
        have hrg := range_part r0 (o + 16 * k) (row8 D) hpt
        have HRG := Lib.hid hrg
        have HSTK := Lib.hid hst
        have HBD := Lib.hid bD
        have R0 := Lib.hid r0
        have N0 := Lib.hid n0
        have G0 := Lib.hid g0
        have q0 : (0 : Int) <= 16 * (k : Int) := by omega
        have q1 : 16 * (k : Int) <= 512 := by omega
        have q2 : (16 * (k : Int)).toNat = 16 * k := by omega
        have q3 : (512 : Nat) ≠ 16 * k := by omega
        have q4 := run_array_at ⟨g, o + 16 * k, none⟩ (512 - 16 * k) (512 - 16 * k) (by omega)
        clear hD bD hpt hst hrg r0 n0 g0
        go_upto_region 5 with (first
          | (refine wpList_load_mid rfl 96 (.tmp 27) rfl g (o + 16 * k) rfl (row8 D) _ HRG.out Tryd.underlying96 rfl (by rw [D16.out]; exact info16) ?_)
          | (refine wpList_store_blk rfl 96 (.tmp 10) (.tmp 28) rfl wr.heap.size 0 (row8 D) rfl rfl 96 D0 (Blk.new wr 96 D0 _ rfl) (by rw [D16.out, hd0]; exact Nat.le_refl _) (by rw [D16.out]; exact info16) (row8_one _) ?_; intro w5 b5 g5; rw [splice_all _ _ (by rw [D16.out, hd0])] at b5; have P5 := Lib.hid b5; have hbw : Below wr.heap.size wr w5 := alloc_turn (Below.refl _ _) g5; have R5 := Lib.hid (R0.out.below hbw R0.out.lt); have N5 := Lib.hid (N0.out.below hbw N0.out.lt); have G5 := Lib.hid (only_trans G0.out (grown_of_below hbw (some g))); clear b5 g5 hbw))
        simp only [put_nothing]
        obtain ⟨pb, hpb⟩ : ∃ c, c = wr.heap.size := ⟨_, rfl⟩
        have hpg : g ≠ pb := by rw [hpb]; have := R0.out.lt; omega
        have hpt : tb ≠ pb := by rw [hpb]; have := N0.out.lt; omega
        have hpw : w.heap.size <= pb := by rw [hpb]; exact G0.out.size
        rw [<- hpb] at P5 ⊢
        obtain ⟨E, hE⟩ : ∃ E, E = t k := ⟨_, rfl⟩
        have bE : Bytes 16 E := by rw [hE]; exact HTB.out k
        obtain ⟨X, hX⟩ : ∃ X, X = ax D E := ⟨_, rfl⟩
        have bX : Bytes 16 X := by rw [hX]; exact ax_bytes HBD.out bE
        obtain ⟨Y, hY⟩ : ∃ Y, Y = T X := ⟨_, rfl⟩
        have bY : Bytes 16 Y := by rw [hY]; exact HTT.out X bX
        obtain ⟨Z, hZ⟩ : ∃ Z, Z = ax Y E := ⟨_, rfl⟩
        have bZ : Bytes 16 Z := by rw [hZ]; exact ax_bytes bY bE
        have hst : splice (row8 (S k)) (o + 16 * k) (row8 Z) = row8 (S (k + 1)) := by rw [hZ, hY, hX, hE]; exact HSTK.out
        have htw := fun W => H2.out k W
        rw [HNX.out k, <- hE] at htw
        have HTW := Lib.hid htw
        have HSTZ := Lib.hid hst
        have H1 := Lib.hid (fun W => tweaked_any D E HBD.out bE W)
        rw [<- hX] at H1
        have H3 := Lib.hid (fun W => tweaked_any Y E bY bE W)
        rw [<- hZ] at H3
        have HTX := Lib.hid (fun W (h : w.grownBy W (some g)) => HTC.out W h X bX)
        rw [<- hY] at HTX
        rw [<- hE] at N5
        have E16 := Lib.hid (show (row8 E).length = 16 by rw [row8_len]; exact bE.1)
        have Z16 := Lib.hid (show (row8 Z).length = 16 by rw [row8_len]; exact bZ.1)
        have HZB := Lib.hid bZ
        have HFY := Lib.hid (HFE.out (.agg (row8 X).toArray))
        have U16 := Lib.hid (T16.out (k + 1))
        obtain ⟨V, hV⟩ : ∃ V, V = t (k + 1) := ⟨_, rfl⟩
        rw [<- hV] at HTW U16
        have HV := Lib.hid hV
        clear bE hX bX hY bY hZ bZ hst htw hE hV R0 N0 G0 hpb
        refine wp_region_g (by kernel_rfl) 7 (by decide) (by kernel_rfl) (by kernel_rfl) (by kernel_rfl) w5.heap.size (Nat.le_refl _) [.val (.func (.func F) #[r] #[]), .val (.agg (row8 D).toArray), .val (.agg (row8 E).toArray), .val (.agg (row8 X).toArray), .val (.agg (row8 Y).toArray), .val (.agg (row8 E).toArray), .val (.agg (row8 Z).toArray)] (fun _ => 8) ?_ ?_
        . refine ⟨?_, ?_, ?_, ?_, ?_, ?_, ?_, trivial⟩
          . intro a w' hF hB hd
            have e3 : a.eval (.tmp 3) = .func (.func F) #[r] #[] := hF 3 (by decide +kernel)
            exact doesG_val rfl (ex_move rfl e3) rfl rfl
          . intro a w' hF hB hd
            have e10 : a.eval (.tmp 10) = .pointer (some ⟨pb, 0, none⟩) := hF 10 (by decide +kernel)
            exact doesG_wp rfl rfl fun K' hK' => wp_load_mid 96 (.tmp 10) rfl pb 0 e10 (row8 D) _ (P5.out.below hB P5.out.lt).range Tryd.underlying96 rfl (by rw [D16.out]; exact info16) (hK' _ _ rfl (Below.refl _ _))
          . intro a w' hF hB hd
            have e8 : a.eval (.tmp 8) = .pointer (some ⟨tb, 0, none⟩) := hF 8 (by decide +kernel)
            exact doesG_wp rfl rfl fun K' hK' => wp_load_mid 96 (.tmp 8) rfl tb 0 e8 (row8 E) _ (N5.out.below hB N5.out.lt).range Tryd.underlying96 rfl (by rw [E16.out]; exact info16) (hK' _ _ rfl (Below.refl _ _))
          . intro a w' hF hB hd
            have e30 : a.eval (.tmp 30) = .agg (row8 D).toArray := hd 1 (by decide +kernel) (.inr (by decide))
            have e31 : a.eval (.tmp 31) = .agg (row8 E).toArray := hd 2 (by decide +kernel) (.inr (by decide))
            exact doesG_call rfl (ex_call (vs := #[.agg (row8 D).toArray, .agg (row8 E).toArray]) rfl (by simp only [List.map_toArray, List.map_cons, List.map_nil, e30, e31]) (by go_simp)) rfl ((H1.out w').mono fun e w2 hh => by
              obtain ⟨rfl, hb⟩ := hh
              exact ⟨_, rfl, rfl, hb⟩)
          . intro a w' hF hB hd
            have e29 : a.eval (.tmp 29) = .func (.func F) #[r] #[] := hd 0 (by decide +kernel) (.inr (by decide))
            have e32 : a.eval (.tmp 32) = .agg (row8 X).toArray := hd 3 (by decide +kernel) (.inr (by decide))
            exact doesG_call rfl (ex_call_fn (vs := #[.agg (row8 X).toArray]) rfl e29 (by simp only [List.map_toArray, List.map_cons, List.map_nil, e32]) (HFY.out w')) rfl ((HTX.out w' (only_trans G5.out (grown_of_below hB (some g)))).mono fun e w2 hh => by
              obtain ⟨rfl, hb⟩ := hh
              exact ⟨_, rfl, rfl, hb⟩)
          . intro a w' hF hB hd
            have e8 : a.eval (.tmp 8) = .pointer (some ⟨tb, 0, none⟩) := hF 8 (by decide +kernel)
            exact doesG_wp rfl rfl fun K' hK' => wp_load_mid 96 (.tmp 8) rfl tb 0 e8 (row8 E) _ (N5.out.below hB N5.out.lt).range Tryd.underlying96 rfl (by rw [E16.out]; exact info16) (hK' _ _ rfl (Below.refl _ _))
          . intro a w' hF hB hd
            have e33 : a.eval (.tmp 33) = .agg (row8 Y).toArray := hd 4 (by decide +kernel) (.inr (by decide))
            have e34 : a.eval (.tmp 34) = .agg (row8 E).toArray := hd 5 (by decide +kernel) (.inr (by decide))
            exact doesG_call rfl (ex_call (vs := #[.agg (row8 Y).toArray, .agg (row8 E).toArray]) rfl (by simp only [List.map_toArray, List.map_cons, List.map_nil, e33, e34]) (by go_simp)) rfl ((H3.out w').mono fun e w2 hh => by
              obtain ⟨rfl, hb⟩ := hh
              exact ⟨_, rfl, rfl, hb⟩)
        . intro vs w6 hB hv hap
          have e35 : vs 6 = .agg (row8 Z).toArray := hv 6 (by decide) (by decide)
          simp only [List.take_succ_cons, List.take_zero, List.drop_succ_cons, List.drop_zero, putOps, Act.put, List.setIfInBounds_toArray, List.set_cons_zero, List.set_cons_succ, e35]
          have P6 := Lib.hid (P5.out.below hB P5.out.lt)
          have R6 := Lib.hid (R5.out.below hB R5.out.lt)
          have N6 := Lib.hid (N5.out.below hB N5.out.lt)
          have G6 := Lib.hid (only_trans G5.out (grown_of_below hB (some g)))
          clear hv hap e35 hB P5 R5 N5 G5 H1 H3 HTX HFY
          generalize vs 0 = y0 at *
          generalize vs 1 = y1 at *
          generalize vs 2 = y2 at *
          generalize vs 3 = y3 at *
          generalize vs 4 = y4 at *
          generalize vs 5 = y5 at *
          go_upto_region 6 with (refine wpList_store_blk rfl 96 (.tmp 10) (.tmp 35) rfl pb 0 (row8 Z) rfl rfl 96 (row8 D) P6.out (by rw [Z16.out, D16.out]; exact Nat.le_refl _) (by rw [Z16.out]; exact info16) (row8_one _) ?_; intro w7 b7 g7; rw [splice_all _ _ (by rw [Z16.out, D16.out])] at b7; have P7 := Lib.hid b7; have R7 := Lib.hid (R6.out.grown g7 (fun q => by have e : g = pb := Option.some.inj q; omega)); have N7 := Lib.hid (N6.out.grown g7 (fun q => by have e : tb = pb := Option.some.inj q; omega)); have G7 := Lib.hid (only_mix G6.out g7 hpw); clear b7 g7)
          simp only [put_nothing]
          have r7 := blk_rd_at P7.out HZB.out.2 0 16 16 (by rw [HZB.out.1]; omega) (Nat.le_refl _) (by rw [HZB.out.1]; omega)
          rw [List.drop_zero, List.take_of_length_le (by rw [HZB.out.1]; omega)] at r7
          have Q7 := Lib.hid r7
          clear r7 P6 R6 N6 G6
          refine wp_region_g (by kernel_rfl) 4 (by decide) (by kernel_rfl) (by kernel_rfl) (by kernel_rfl) w7.heap.size (Nat.le_refl _) [.val (.slice (some ⟨g, o, none⟩) 512 512), .val (.int .i64 (16 * (k : Int))), .val (.slice (some ⟨g, o + 16 * k, none⟩) (512 - 16 * k) (512 - 16 * k)), .val (.slice (some ⟨pb, 0, none⟩) 16 16)] (fun _ => 5) ?_ ?_
          . refine ⟨?_, ?_, ?_, ?_, trivial⟩
            . intro a w' hF hB hd
              have e2 : a.eval (.tmp 2) = .slice (some ⟨g, o, none⟩) 512 512 := hF 2 (by decide +kernel)
              exact doesG_val rfl (ex_move rfl e2) rfl rfl
            . intro a w' hF hB hd
              have e9 : a.eval (.tmp 9) = .int .i64 (16 * (k : Int)) := hF 9 (by decide +kernel)
              exact doesG_val rfl (ex_move rfl e9) rfl rfl
            . intro a w' hF hB hd
              have e36 : a.eval (.tmp 36) = .slice (some ⟨g, o, none⟩) 512 512 := hd 0 (by decide +kernel) (.inr (by decide))
              have e37 : a.eval (.tmp 37) = .int .i64 (16 * (k : Int)) := hd 1 (by decide +kernel) (.inr (by decide))
              exact doesG_val rfl (v := .slice (some ⟨g, o + 16 * k, none⟩) (512 - 16 * k) (512 - 16 * k)) (by unfold execOp; simp only [Option.map_some, Option.map_none, e36, e37]; go_simp) rfl rfl
            . intro a w' hF hB hd
              have e10 : a.eval (.tmp 10) = .pointer (some ⟨pb, 0, none⟩) := hF 10 (by decide +kernel)
              exact doesG_val rfl (v := .slice (some ⟨pb, 0, none⟩) 16 16) (by unfold execOp; simp only [e10]; go_simp) rfl rfl
          . intro vs w8 hB hv hap
            have e38 : vs 2 = .slice (some ⟨g, o + 16 * k, none⟩) (512 - 16 * k) (512 - 16 * k) := hv 2 (by decide) (by decide)
            have e39 : vs 3 = .slice (some ⟨pb, 0, none⟩) 16 16 := hv 3 (by decide) (by decide)
            simp only [List.take_succ_cons, List.take_zero, List.drop_succ_cons, List.drop_zero, putOps, Act.put, List.setIfInBounds_toArray, List.set_cons_zero, List.set_cons_succ, e38, e39]
            have R8 := Lib.hid (R7.out.below hB R7.out.lt)
            have N8 := Lib.hid (N7.out.below hB N7.out.lt)
            have Q8 := Lib.hid (Q7.out.below hB)
            have G8 := Lib.hid (only_trans G7.out (grown_of_below hB (some g)))
            have HMN := Lib.hid (show 16 = min Z.length (512 - 16 * k) by rw [HZB.out.1]; omega)
            have HLE := Lib.hid (show o + 16 * k + 16 <= (row8 (S k)).length by rw [row8_len, HSL.out k hk]; have := HO.out; omega)
            have HTK := Lib.hid (show Z.take 16 = Z from List.take_of_length_le (by rw [HZB.out.1]; omega))
            clear hv hap e38 e39 hB P7 R7 N7 Q7 G7
            generalize vs 0 = z0 at *
            generalize vs 1 = z1 at *
            go_wp2_with (first
              | ((with_reducible show wpList _ _ _ _ _ _); refine wpList_copy_blk rfl (.tmp 38) (.tmp 39) 25 25 rfl Tryd.underlying25 g (o + 16 * k) (512 - 16 * k) (512 - 16 * k) 5 (row8 (S k)) R8.out (some ⟨g, o + 16 * k, none⟩) rfl (.slice (some ⟨pb, 0, none⟩) 16 16) rfl Z Q8.out 16 HMN.out (fun _ => rfl) HLE.out ?_; intro w9 r9 g9; rw [HTK.out, HSTZ.out] at r9; have R9 := Lib.hid r9; have N9 := Lib.hid (N8.out.grown g9 (fun q => by have e : tb = g := Option.some.inj q; omega)); have G9 := Lib.hid (only_trans G8.out g9); clear r9 g9)
              | (refine wpList_load_mid rfl 96 (.tmp 8) rfl tb 0 rfl (row8 E) _ N9.out.range Tryd.underlying96 rfl (by rw [E16.out]; exact info16) ?_)
              | (go_at_call 79; (with_reducible refine (HTW.out _).mono ?_); rintro e w10 ⟨rfl, b10⟩; have R10 := Lib.hid (R9.out.below b10 R9.out.lt); have N10 := Lib.hid (N9.out.below b10 N9.out.lt); have G10 := Lib.hid (only_trans G9.out (grown_of_below b10 (some g))); clear b10)
              | (refine wpList_store_blk rfl 96 (.tmp 8) (.tmp 42) rfl tb 0 (row8 V) rfl rfl 96 (row8 E) N10.out (by rw [U16.out, E16.out]; exact Nat.le_refl _) (by rw [U16.out]; exact info16) (row8_one _) ?_; intro w11 b11 g11; rw [splice_all _ _ (by rw [U16.out, E16.out]), HV.out] at b11; have N11 := Lib.hid b11; have R11 := Lib.hid (R10.out.grown g11 (fun q => by have e : g = tb := Option.some.inj q; omega)); have G11 := Lib.hid (only_mix G10.out g11 HBT.out); clear b11 g11))
            exact ⟨⟨k + 1, by omega, by go_num, R11.out, N11.out, G11.out⟩, by simp [intOf]; omega⟩
      . have hltI : ¬ 16 * (k : Int) < 512 := by omega
        obtain rfl : k = 32 := by omega
        have R1 := Lib.hid r0
        have G1 := Lib.hid g0
        clear r0 n0 g0
        go_wp2_with fail
        go_end0
        exact ⟨rfl, R1.out, G1.out⟩
end Go.Proofs.YtflnodkajhokhaaDoor
namespace Go.Proofs.YtflnodkajhokhaaDoor
open Go.ChangeShapes Go.WideShapes Go.ChangeAt Go.RowKit
open AM FM XM
def Xt (w : World) (x : Nat) (K L : List Nat) : Prop := ∃ c d, Blk w x 75 [.pointer (some ⟨c, 0, none⟩), .pointer (some ⟨d, 0, none⟩)] /\ Cph w c K /\ Cph w d L
def NewB (w : World) (y : Value) : Prop := ∀ g, y.ownBlock = some g -> w.heap.size <= g
theorem NewB.none_ (w : World) : NewB w (.slice none 0 0) := fun _ h => by cases h
theorem Xt.below {w w' : World} {x : Nat} {K L : List Nat} (h : Xt w x K L) (hb : Below w.heap.size w w') : Xt w' x K L := by
  obtain ⟨c, d, h1, h2, h3⟩ := h
  exact ⟨c, d, h1.below hb h1.lt, h2.below hb, h3.below hb⟩
namespace XM
theorem splice_behind (A B p : List Nat) : splice (A ++ B) A.length p = A ++ p ++ B.drop p.length := by
  unfold splice
  rw [List.take_left, List.drop_append, List.drop_eq_nil_of_le (by omega), List.nil_append, show A.length + p.length - A.length = p.length by omega, List.append_assoc]
def upon (op : Bool) (k1 k2 : Nat -> List Nat) (n : Nat) (b : List Nat) (j : Nat) : List Nat := secs op k1 k2 n b j ++ b.drop (512 * j)
theorem upon_zero (op : Bool) (k1 k2 : Nat -> List Nat) (n : Nat) (b : List Nat) : upon op k1 k2 n b 0 = b := by
  unfold upon; rw [secs_zero]; simp
theorem upon_len (op : Bool) {k1 k2 : Nat -> List Nat} (h1 : ∀ n, Bytes 16 (k1 n)) (h2 : ∀ n, Bytes 16 (k2 n)) (n : Nat) (b : List Nat) (j : Nat) (hj : 512 * j <= b.length) : (upon op k1 k2 n b j).length = b.length := by
  unfold upon; rw [List.length_append, secs_len op h1 h2, List.length_drop]; omega
theorem upon_step (op : Bool) {k1 k2 : Nat -> List Nat} (h1 : ∀ n, Bytes 16 (k1 n)) (h2 : ∀ n, Bytes 16 (k2 n)) (T : List Nat -> List Nat) (hT : ∀ q c, bw (fun i => bt T (tweak k2 q i)) c 32 = sec op k1 k2 q c) (n : Nat) (b : List Nat) (j : Nat) : under T (tweak k2 ((n + j) % 2 ^ 64)) (upon op k1 k2 n b j) (512 * j) 32 = upon op k1 k2 n b (j + 1) := by
  have hl := secs_len op h1 h2 n b j
  unfold under
  have e : ((upon op k1 k2 n b j).drop (512 * j)).take 512 = (b.drop (512 * j)).take 512 := by
    unfold upon
    rw [List.drop_append, hl, List.drop_eq_nil_of_le (by omega), List.nil_append, Nat.sub_self, List.drop_zero]
  rw [e, hT]
  have hs : (sec op k1 k2 ((n + j) % 2 ^ 64) ((b.drop (512 * j)).take 512)).length = 512 := sec_len _ _ _ _ _
  have e2 := splice_behind (secs op k1 k2 n b j) (b.drop (512 * j)) (sec op k1 k2 ((n + j) % 2 ^ 64) ((b.drop (512 * j)).take 512))
  rw [hl, hs, secs_step, List.drop_drop] at e2
  unfold upon
  rw [e2, show 512 * j + 512 = 512 * (j + 1) by omega]
theorem upon_all (op : Bool) (k1 k2 : Nat -> List Nat) (n : Nat) (b : List Nat) (m : Nat) (h : b.length = 512 * m) : upon op k1 k2 n b m = if op = true then xopen k1 k2 n b else xseal k1 k2 n b := by
  unfold upon; rw [List.drop_eq_nil_of_le (by omega), List.append_nil]; exact secs_all op k1 k2 n b m h
theorem upon_byte (op : Bool) {k1 k2 : Nat -> List Nat} (h1 : ∀ n, Bytes 16 (k1 n)) (h2 : ∀ n, Bytes 16 (k2 n)) (n : Nat) {b : List Nat} (hb : ∀ k, gb b k < 256) (j : Nat) (hj : 512 * j <= b.length) : ∀ k, gb (upon op k1 k2 n b j) k < 256 := by
  unfold upon
  refine gb_app _ _ ?_ (fun k => by rw [gb_drop]; exact hb _)
  unfold secs
  split
  . exact openTo_byte h1 h2 n hb _ (by omega)
  . exact sealTo_byte h1 h2 n b _
end XM
set_option maxRecDepth 100000 in
set_option maxHeartbeats 4000000 in
theorem psectors_any (op : Bool) (k1 : Nat -> List Nat) (h1 : ∀ n, Bytes 16 (k1 n)) (T : List Nat -> List Nat) (hTB : ∀ s, Bytes 16 s -> Bytes 16 (T s)) (F : FuncId) (r : Value) (hF : ∀ a w, (callFunc F (#[r] ++ #[a])).run Tryd.prog w = .ok (.enter F (#[r] ++ #[a])) w)
    (x d : Nat) (p : Value) (L : List Nat) (n : Nat) (hn : n < 2 ^ 64) (v : Value) (b : List Nat) (w : World) (hv : Rd w v b)
    (hx : Blk w x 75 [p, .pointer (some ⟨d, 0, none⟩)]) (hd : Cph w d L) (ht : TabX w) (hTs : ∀ q c, bw (fun i => bt T (tweak (keys L) q i)) c 32 = sec op k1 (keys L) q c)
    (hT : ∀ W, Below w.heap.size w W -> ∀ s, Bytes 16 s -> Calls Tryd.prog F (#[r] ++ #[.agg (row8 s).toArray]) W fun e W' => e = .returned (.agg (row8 (T s)).toArray) /\ Below W.heap.size W W') :
    Calls Tryd.prog 38 #[.pointer (some ⟨x, 0, none⟩), .int .u64 (n : Int), v, .func (.func F) #[r] #[]] w fun e w' => ∃ y, e = .returned (.tuple #[y, .int .i64 (xerr b.length)]) /\ Rd w' y (if xerr b.length = 0 then (if op = true then xopen k1 (keys L) n b else xseal k1 (keys L) n b) else []) /\ NewB w y /\ Below w.heap.size w w' := by
  obtain ⟨ab, cb, rfl, hcb⟩ := hv.shape
  obtain ⟨m, hm⟩ : ∃ m, m = b.length := ⟨_, rfl⟩
  have hb47 := hv.fits
  rw [<- hm] at hcb hb47 ⊢
  by_cases hr : m % 512 ≠ 0
  . have hrI : ¬ (m : Int) % 512 = 0 := by omega
    have hx2 : xerr m = 2 := by unfold xerr; rw [if_pos (.inl hr)]
    have B0 := Lib.hid (Below.refl w.heap.size w)
    rw [hx2, if_neg (by decide)]
    clear hx hd ht hTs hT hv hF hTB h1
    go_enter Tryd.func38, Tryd.ntmps38
    go_wp2_with fail
    go_ret2
    exact ⟨.slice none 0 0, rfl, Rd.none_ _, NewB.none_ _, B0.out⟩
  have hrI : (m : Int) % 512 = 0 := by omega
  by_cases hl : 65536 < m
  . have hlI : (65536 : Int) < (m : Int) := by omega
    have hx2 : xerr m = 2 := by unfold xerr; rw [if_pos (.inr hl)]
    have B0 := Lib.hid (Below.refl w.heap.size w)
    rw [hx2, if_neg (by decide)]
    clear hx hd ht hTs hT hv hF hTB h1
    go_enter Tryd.func38, Tryd.ntmps38
    go_wp2_with fail
    go_ret2
    exact ⟨.slice none 0 0, rfl, Rd.none_ _, NewB.none_ _, B0.out⟩
  have hlI : ¬ (65536 : Int) < (m : Int) := by omega
  have hx0 : xerr m = 0 := by unfold xerr; rw [if_neg (by omega)]
  obtain ⟨N, hN⟩ : ∃ N, m = 512 * N := ⟨m / 512, by omega⟩
  have h2 : ∀ j, Bytes 16 (keys L j) := keys_bytes hd.1
  rw [hx0, if_pos rfl, <- upon_all op k1 (keys L) n b N (by omega)]
  obtain ⟨S, hS⟩ : ∃ S, S = upon op k1 (keys L) n b := ⟨_, rfl⟩
  have hS0 : S 0 = b := by rw [hS]; exact upon_zero _ _ _ _ _
  have HSL := Lib.hid (fun j (h : j <= N) => (show (S j).length = m by rw [hS, hm]; exact upon_len op h1 h2 n b j (by omega)))
  have HSB := Lib.hid (fun j (h : j <= N) => (show ∀ k, gb (S j) k < 256 by rw [hS]; exact upon_byte op h1 h2 n hv.byte j (by omega)))
  have HST := Lib.hid (fun j => (show under T (tweak (keys L) ((n + j) % 2 ^ 64)) (S j) (512 * j) 32 = S (j + 1) by rw [hS]; exact upon_step op h1 h2 T hTs n b j))
  rw [<- hS]
  have HSC := Lib.hid (fun (W : World) (hW : Below w.heap.size w W) (q j : Nat) (R : List Nat) (hR : ∀ k, gb R k < 256) (ho : 512 * j + 512 <= R.length) (hg : Blk W w.heap.size 5 (row8 R)) =>
    psector_any T hTB F r hF x d p L q w.heap.size (512 * j) R hR ho W hg (hx.below hW hx.lt) (hd.below hW) (ht.below hW) (by have := hx.lt; omega) (by have := hd.lt; omega) (by have := ht.lt; omega)
      (fun V hV s hs => hT V (hW.grown hV hW.size (fun i hi => by have e : w.heap.size = i := Option.some.inj hi; omega)) s hs))
  obtain ⟨i0, hi, hz0, hz1, hz2⟩ := info_parts infoB
  have HI := Lib.hid hi
  have HZ0 := Lib.hid hz0
  have HZ1 := Lib.hid hz1
  have HB2 := Lib.hid (show i0.bytes * m <= 281474976710656 by rw [hz2]; omega)
  have HB3 := Lib.hid (show m <= maxLen by unfold maxLen; omega)
  have HV := Lib.hid (fun W (hW : Below w.heap.size w W) => (show Rd W (.slice ab m cb) b by rw [hm]; exact hv.below hW))
  have HM := Lib.hid hm
  have HN := Lib.hid hN
  have HS0 := Lib.hid hS0
  have HNN := Lib.hid hn
  have HBK := Lib.hid (show b.take m = b from List.take_of_length_le (by omega))
  have HMN := Lib.hid (show m = min b.length m by omega)
  clear hx hd ht hTs hT hv hF hTB h1 h2 hS hS0 hi hz0 hz1 hz2 hm hN hx0 hn
  go_enter Tryd.func38, Tryd.ntmps38
  go_wp2_with (first
    | (refine wpList_make_full _ rfl (.tmp 23) (.tmp 23) 25 rfl w.heap.size 5 i0 (.int .u8 0) 1 Tryd.underlying25 HI.out HZ0.out HZ1.out .i64 .i64 _ _ m rfl rfl rfl rfl HB2.out HB3.out (Nat.le_refl _) ?_; intro w1 hown hg; have b1 : Blk w1 w.heap.size 5 (row8 (List.replicate m 0)) := (own_blk (l := List.replicate m 0) (by rw [noughts8, <- toList_madeCells_one]; rw [Nat.mul_one] at hown; exact hown)); have B1 := Lib.hid b1; have G1 := Lib.hid (below_of_grown hg); clear hown hg b1)
    | ((with_reducible show wpList _ _ _ _ _ _); refine wpList_copy_blk rfl (.tmp 25) (.tmp 26) 25 25 rfl Tryd.underlying25 w.heap.size 0 m m 5 (row8 (List.replicate m 0)) B1.out (some ⟨w.heap.size, 0, none⟩) rfl (.slice ab m cb) rfl b (HV.out _ G1.out) m HMN.out (fun _ => rfl) (by rw [row8_len, List.length_replicate]; omega) ?_; intro w2 b2 g2; rw [HBK.out, splice_all _ _ (by rw [row8_len, row8_len, List.length_replicate]; exact HM.out.symm)] at b2; have B2 := Lib.hid b2; have G2 := Lib.hid (G1.out.grown g2 G1.out.size (fun i hi => by have e : w.heap.size = i := Option.some.inj hi; omega)); clear b2 g2))
  go_loopw [1, 11] (fun q x wr => ∃ j : Nat, j <= N /\ q = .int .u64 (((n + j) % 2 ^ 64 : Nat) : Int) /\ x = .int .i64 (512 * (j : Int)) /\ Blk wr w.heap.size 5 (row8 (S j)) /\ Below w.heap.size w wr) (fun _ x _ => m - (intOf x).toNat)
  case atStart => exact ⟨0, by omega, by rw [Nat.add_zero, Nat.mod_eq_of_lt HNN.out], rfl, by rw [HS0.out]; exact B2.out, G2.out⟩
  case round =>
    clear B1 G1 B2 G2
    obtain ⟨j, hj, rfl, rfl, r0, g0⟩ := hrel
    by_cases hlt : j < N
    . have hltI : 512 * (j : Int) < (m : Int) := by have := HN.out; omega
      obtain ⟨q, hq⟩ : ∃ q, q = (n + j) % 2 ^ 64 := ⟨_, rfl⟩
      obtain ⟨u, hu⟩ : ∃ u, u = (n + (j + 1)) % 2 ^ 64 := ⟨_, rfl⟩
      have hqu : ((q : Int) + 1) % 18446744073709551616 = (u : Int) := by rw [hq, hu]; omega
      have hst := HST.out j
      have hcall := HSC.out wr g0 q j (S j) (HSB.out j hj) (by rw [HSL.out j hj]; have := HN.out; omega) r0
      rw [<- hq] at hst ⊢
      rw [hst] at hcall
      have HCALL := Lib.hid hcall
      have HU := Lib.hid hu
      have R0 := Lib.hid r0
      have G0 := Lib.hid g0
      have f1 : (0 : Int) <= 512 * (j : Int) := by omega
      have f2 : 512 * (j : Int) + 512 <= (m : Int) := by have := HN.out; omega
      have f3 : 512 * (j : Int) <= 512 * (j : Int) + 512 := by omega
      have f4 : (512 * (j : Int)).toNat = 512 * j := by omega
      have f5 : (512 * (j : Int) + 512).toNat = 512 * j + 512 := by omega
      clear hq hu hst hcall r0 g0
      go_wp2_with (go_at_call 60; (with_reducible refine HCALL.out.mono ?_); rintro e w4 ⟨rfl, b4, g4⟩; have R4 := Lib.hid b4; have G4 := Lib.hid (G0.out.grown g4 G0.out.size (fun i hi => by have e : w.heap.size = i := Option.some.inj hi; omega)); clear b4 g4)
      exact ⟨⟨j + 1, by omega, by rw [IntKind.wrap_u64, hqu, HU.out], by go_num, R4.out, G4.out⟩, by simp [intOf]; omega⟩
    . have hltI : ¬ 512 * (j : Int) < (m : Int) := by have := HN.out; omega
      obtain rfl : j = N := by omega
      have r1 := blk_rd_at r0 (HSB.out j hj) 0 m m (by rw [HSL.out j hj]; omega) (Nat.le_refl _) (by rw [HSL.out j hj]; omega)
      rw [List.drop_zero, List.take_of_length_le (by rw [HSL.out j hj]; exact Nat.le_refl _)] at r1
      have R1 := Lib.hid r1
      have G1 := Lib.hid g0
      clear r0 r1 g0
      go_wp2_with fail
      go_ret2
      exact ⟨_, rfl, R1.out, fun g e => by rw [<- Option.some.inj e]; exact Nat.le_refl _, G1.out⟩
set_option maxRecDepth 100000 in
set_option maxHeartbeats 1000000 in
theorem xt_sealN (x : Nat) (K L : List Nat) (n : Nat) (hn : n < 2 ^ 64) (v : Value) (b : List Nat) (w : World) (hv : Rd w v b) (h : Xt w x K L) (hx : TabX w) :
    Calls Tryd.prog 23 #[.pointer (some ⟨x, 0, none⟩), .int .u64 (n : Int), v] w fun e w' => ∃ y, e = .returned (.tuple #[y, .int .i64 (xerr b.length)]) /\ Rd w' y (if xerr b.length = 0 then xseal (keys K) (keys L) n b else []) /\ NewB w y /\ Below w.heap.size w w' := by
  obtain ⟨c, d, hb, hc, hd⟩ := h
  have hS := psectors_any false (keys K) (keys_bytes hc.1) (enc (keys K)) (fun s hs => enc_bytes (keys_bytes hc.1) s) 39 (.pointer (some ⟨c, 0, none⟩)) (fun a w => by go_simp) x d (.pointer (some ⟨c, 0, none⟩)) L n hn v b w hv hb hd hx (fun q c => rfl)
    (fun W hW s hs => cph_enc K c s hs W (hc.below hW) (hx.below hW))
  have c0 := hb.cell 0 _ rfl
  have hmf := run_makeFunc (.func 39) #[.pointer (some ⟨c, 0, none⟩)] #[]
  obtain ⟨ab, cb, rfl, hcb⟩ := hv.shape
  obtain ⟨m, hm⟩ : ∃ m, m = b.length := ⟨_, rfl⟩
  obtain ⟨z, hz⟩ : ∃ z, z = xerr m := ⟨_, rfl⟩
  obtain ⟨C, hC⟩ : ∃ C, C = (if xerr b.length = 0 then xseal (keys K) (keys L) n b else []) := ⟨_, rfl⟩
  rw [<- hC]
  rw [if_neg (show ¬ (false = true) by decide), <- hC, <- hm, <- hz] at hS
  rw [<- hm, <- hz]
  have HS := Lib.hid hS
  clear hS hc hd hv hx hC hz hm hb
  go_enter Tryd.func23, Tryd.ntmps23
  go_wp2_with (go_at_call 38; (with_reducible refine HS.out.mono ?_); rintro e w4 ⟨y, rfl, r4, n4, b4⟩; obtain ⟨a4, c4, rfl, _⟩ := r4.shape; have R4 := Lib.hid r4; have N4 := Lib.hid n4; have B4 := Lib.hid b4; clear r4 n4 b4)
  go_ret2
  exact ⟨_, rfl, R4.out, N4.out, B4.out⟩
set_option maxRecDepth 100000 in
set_option maxHeartbeats 1000000 in
theorem xt_openN (x : Nat) (K L : List Nat) (n : Nat) (hn : n < 2 ^ 64) (v : Value) (b : List Nat) (w : World) (hv : Rd w v b) (h : Xt w x K L) (hx : TabX w) (hu : TabU w) :
    Calls Tryd.prog 43 #[.pointer (some ⟨x, 0, none⟩), .int .u64 (n : Int), v] w fun e w' => ∃ y, e = .returned (.tuple #[y, .int .i64 (xerr b.length)]) /\ Rd w' y (if xerr b.length = 0 then xopen (keys K) (keys L) n b else []) /\ NewB w y /\ Below w.heap.size w w' := by
  obtain ⟨c, d, hb, hc, hd⟩ := h
  have hS := psectors_any true (keys K) (keys_bytes hc.1) (dec (keys K)) (fun s hs => dec_bytes (keys_bytes hc.1) hs) 66 (.pointer (some ⟨c, 0, none⟩)) (fun a w => by go_simp) x d (.pointer (some ⟨c, 0, none⟩)) L n hn v b w hv hb hd hx (fun q c => rfl)
    (fun W hW s hs => cph_dec K c s hs W (hc.below hW) (hu.below hW))
  have c0 := hb.cell 0 _ rfl
  have hmf := run_makeFunc (.func 66) #[.pointer (some ⟨c, 0, none⟩)] #[]
  obtain ⟨ab, cb, rfl, hcb⟩ := hv.shape
  obtain ⟨m, hm⟩ : ∃ m, m = b.length := ⟨_, rfl⟩
  obtain ⟨z, hz⟩ : ∃ z, z = xerr m := ⟨_, rfl⟩
  obtain ⟨C, hC⟩ : ∃ C, C = (if xerr b.length = 0 then xopen (keys K) (keys L) n b else []) := ⟨_, rfl⟩
  rw [<- hC]
  rw [if_pos (show true = true from rfl), <- hC, <- hm, <- hz] at hS
  rw [<- hm, <- hz]
  have HS := Lib.hid hS
  clear hS hc hd hv hx hu hC hz hm hb
  go_enter Tryd.func43, Tryd.ntmps43
  go_wp2_with (go_at_call 38; (with_reducible refine HS.out.mono ?_); rintro e w4 ⟨y, rfl, r4, n4, b4⟩; obtain ⟨a4, c4, rfl, _⟩ := r4.shape; have R4 := Lib.hid r4; have N4 := Lib.hid n4; have B4 := Lib.hid b4; clear r4 n4 b4)
  go_ret2
  exact ⟨_, rfl, R4.out, N4.out, B4.out⟩
def Pred.cphx {B : Nat} (K : List Nat) : Pred B := ⟨fun v w => ∃ c, v = .pointer (some ⟨c, 0, none⟩) /\ B <= c /\ Cph w c K, false,
  fun h hb => by obtain ⟨c, e, hB, hc⟩ := h; exact ⟨c, e, hB, hc.below hb⟩,
  fun h hg _ hne => by
    obtain ⟨c, e, hB, hc⟩ := h
    refine ⟨c, e, hB, hc.grown hg fun q => ?_⟩
    rcases hne with q2 | q2
    . cases q2
    . apply q2; rw [e]; exact q⟩
set_option maxRecDepth 100000 in
set_option maxHeartbeats 1000000 in
theorem xt_newN (K L : List Nat) (hK : Bytes 32 K) (hL : Bytes 32 L) (w : World) (hx : TabX w) :
    Calls Tryd.prog 15 #[.agg (row8 K).toArray, .agg (row8 L).toArray] w fun e w' => ∃ x c d, (w.heap.size <= x /\ w.heap.size <= c /\ w.heap.size <= d) /\ e = .returned (.pointer (some ⟨x, 0, none⟩)) /\ Blk w' x 75 [.pointer (some ⟨c, 0, none⟩), .pointer (some ⟨d, 0, none⟩)] /\ Cph w' c K /\ Cph w' d L /\ Below w.heap.size w w' := by
  have w1 := (Below.refl w.heap.size w).alloc (Nat.le_refl _) (.cells (row8 K).toArray 23)
  have w2 := w1.alloc w1.size (.cells (row8 L).toArray 23)
  obtain ⟨W2, hW2⟩ : ∃ W, W = ((w.alloc (.cells (row8 K).toArray 23)).alloc (.cells (row8 L).toArray 23)) := ⟨_, rfl⟩
  have k1 := (Blk.new w 23 (row8 K) _ rfl).alloc (.cells (row8 L).toArray 23)
  have k2 := Blk.new (w.alloc (.cells (row8 K).toArray 23)) 23 (row8 L) (w.heap.size + 1) (by simp)
  rw [<- hW2] at w2 k1 k2
  have B2 := Lib.hid w2
  have K2 := Lib.hid k1
  have L2 := Lib.hid k2
  have K32 := Lib.hid (show (row8 K).length = 32 by rw [row8_len]; exact hK.1)
  have L32 := Lib.hid (show (row8 L).length = 32 by rw [row8_len]; exact hL.1)
  have HK := Lib.hid hK
  have HL := Lib.hid hL
  have HX := Lib.hid (hx.below w2)
  have HW := Lib.hid hW2
  clear w1 w2 k1 k2 hK hL hx hW2
  go_enter Tryd.func15, Tryd.ntmps15
  go_upto_region 1 with (fail)
  rw [<- HW.out]
  refine wp_region_g (by kernel_rfl) 4 (by decide) (by kernel_rfl) (by kernel_rfl) (by kernel_rfl) W2.heap.size (Nat.le_refl _) [.val (.agg (row8 K).toArray), .cphx K, .val (.agg (row8 L).toArray), .cphx L] (fun _ => 7) ?_ ?_
  . refine ⟨?_, ?_, ?_, ?_, trivial⟩
    . intro a w' hF hB hd
      have e2 : a.eval (.tmp 2) = .pointer (some ⟨w.heap.size, 0, none⟩) := hF 2 (by decide +kernel)
      exact doesG_wp rfl rfl fun K' hK' => wp_load_mid 23 (.tmp 2) rfl w.heap.size 0 e2 (row8 K) _ (K2.out.below hB K2.out.lt).range Tryd.underlying23 rfl (by rw [K32.out]; exact infoKeyP) (hK' _ _ rfl (Below.refl _ _))
    . intro a w' hF hB hd
      have e5 : a.eval (.tmp 5) = .agg (row8 K).toArray := hd 0 (by decide +kernel) (.inr (by decide))
      exact doesG_made rfl (ex_call (vs := #[.agg (row8 K).toArray]) rfl (by simp only [List.map_toArray, List.map_cons, List.map_nil, e5]) (by go_simp)) ((cph_new K HK.out w' (HX.out.below hB)).mono fun e w4 hh => by
        obtain ⟨c, q1, rfl, q3, q4⟩ := hh
        exact ⟨_, rfl, ⟨c, rfl, by have := hB.size; omega, q3⟩, q4, fun g hg => by have : c = g := Option.some.inj hg; have := q3.lt; omega⟩)
    . intro a w' hF hB hd
      have e3 : a.eval (.tmp 3) = .pointer (some ⟨w.heap.size + 1, 0, none⟩) := hF 3 (by decide +kernel)
      exact doesG_wp rfl rfl fun K' hK' => wp_load_mid 23 (.tmp 3) rfl (w.heap.size + 1) 0 e3 (row8 L) _ (L2.out.below hB L2.out.lt).range Tryd.underlying23 rfl (by rw [L32.out]; exact infoKeyP) (hK' _ _ rfl (Below.refl _ _))
    . intro a w' hF hB hd
      have e7 : a.eval (.tmp 7) = .agg (row8 L).toArray := hd 2 (by decide +kernel) (.inr (by decide))
      exact doesG_made rfl (ex_call (vs := #[.agg (row8 L).toArray]) rfl (by simp only [List.map_toArray, List.map_cons, List.map_nil, e7]) (by go_simp)) ((cph_new L HL.out w' (HX.out.below hB)).mono fun e w4 hh => by
        obtain ⟨c, q1, rfl, q3, q4⟩ := hh
        exact ⟨_, rfl, ⟨c, rfl, by have := hB.size; omega, q3⟩, q4, fun g hg => by have : c = g := Option.some.inj hg; have := q3.lt; omega⟩)
  . intro vs w4 hB hv hap
    obtain ⟨c, e1, hb1, hs1⟩ : ∃ c, vs 1 = .pointer (some ⟨c, 0, none⟩) /\ W2.heap.size <= c /\ Cph w4 c K := hv 1 (by omega) (by omega)
    obtain ⟨d, e3, hb3, hs3⟩ : ∃ c, vs 3 = .pointer (some ⟨c, 0, none⟩) /\ W2.heap.size <= c /\ Cph w4 c L := hv 3 (by omega) (by omega)
    simp only [List.take_succ_cons, List.take_zero, List.drop_succ_cons, List.drop_zero, putOps, Act.put, List.setIfInBounds_toArray, List.set_cons_zero, List.set_cons_succ, e1, e3]
    have HS1 := Lib.hid hs1
    have HS3 := Lib.hid hs3
    have B4 := Lib.hid (B2.out.on hB)
    have H1 := Lib.hid (Nat.le_trans B2.out.size hb1)
    have H3 := Lib.hid (Nat.le_trans B2.out.size hb3)
    clear hv hap hs1 hs3 hB e1 e3 hb1 hb3
    go_wp2_with fail
    go_ret
    have ba := (Below.refl w4.heap.size w4).alloc (Nat.le_refl _) (.cells #[.pointer (some ⟨c, 0, none⟩), .pointer (some ⟨d, 0, none⟩)] 75)
    exact ⟨w4.heap.size, c, d, ⟨B4.out.size, H1.out, H3.out⟩, rfl, Blk.new w4 75 [.pointer (some ⟨c, 0, none⟩), .pointer (some ⟨d, 0, none⟩)] _ rfl, HS1.out.below ba, HS3.out.below ba, B4.out.alloc B4.out.size _⟩
end Go.Proofs.YtflnodkajhokhaaDoor
end

section
namespace Go.Proofs.YtflnodkajhokhaaDoor
open Go.ChangeShapes Go.WideShapes Go.ChangeAt Go.RowKit
open SU

set_option maxHeartbeats 400000 in
theorem sumay_any (C P : Int) (w : World) : Calls Tryd.prog 44 #[.agg #[.int .i64 C, .int .i64 P]] w fun e w' => e = .returned (.bool (may C P)) /\ Below w.heap.size w w' := by
  have X1 := Lib.hid (Blk.new w 33 [.int .i64 C, .int .i64 P] _ rfl)
  have W1 := Lib.hid ((Below.refl w.heap.size w).alloc (Nat.le_refl _) (.cells [Value.int .i64 C, .int .i64 P].toArray 33))
  go_enter Tryd.func44, Tryd.ntmps44
  go_upto_region 1 with (fail)
  obtain ⟨w1, hw1⟩ : ∃ x, x = w.alloc (.cells #[.int .i64 C, .int .i64 P] 33) := ⟨_, rfl⟩
  have X1' := Lib.hid (show Blk w1 w.heap.size 33 [.int .i64 C, .int .i64 P] by rw [hw1]; exact X1.out)
  have W1' := Lib.hid (show Below w.heap.size w w1 by rw [hw1]; exact W1.out)
  rw [<- hw1]
  clear hw1 X1 W1
  have X1 := X1'
  have W1 := W1'
  clear X1' W1'
  refine wp_region_g (by kernel_rfl) 5 (by decide) (by kernel_rfl) (by kernel_rfl) (by kernel_rfl) (w1.heap.size) (Nat.le_refl _) [.val (.agg #[.int .i64 C, .int .i64 P]), .val (.agg #[.int .i64 C, .int .i64 P]), .val (.agg #[.int .i64 (near 64 C), .int .i64 (near 2 P)]), .val (.bool (may C P)), .val (.bool (may C P))] (fun _ => 5) ?_ ?_
  . refine ⟨?_, ?_, ?_, ?_, ?_, trivial⟩
    . intro a w' hF hB hd
      have e1 : a.eval (.tmp 1) = .pointer (some ⟨w.heap.size, 0, none⟩) := hF 1 (by decide +kernel)
      exact doesG_val rfl (ex_geo rfl e1 (X1.out.below hB X1.out.lt)) rfl rfl
    . intro a w' hF hB hd
      have e1 : a.eval (.tmp 1) = .pointer (some ⟨w.heap.size, 0, none⟩) := hF 1 (by decide +kernel)
      exact doesG_val rfl (ex_geo rfl e1 (X1.out.below hB X1.out.lt)) rfl rfl
    . intro a w' hF hB hd
      have e4 : a.eval (.tmp 4) = .agg #[.int .i64 C, .int .i64 P] := hd 1 (by decide +kernel) (.inr (by decide))
      exact doesG_call rfl (ex_call (vs := #[.agg #[.int .i64 C, .int .i64 P]]) rfl (by simp only [List.map_toArray, List.map_cons, List.map_nil, e4]) (by go_simp)) rfl ((sunear_any C P w').mono fun e w2 hh => ⟨_, hh.1, rfl, hh.2⟩)
    . intro a w' hF hB hd
      have e3 : a.eval (.tmp 3) = .agg #[.int .i64 C, .int .i64 P] := hd 0 (by decide +kernel) (.inr (by decide))
      have e5 : a.eval (.tmp 5) = .agg #[.int .i64 (near 64 C), .int .i64 (near 2 P)] := hd 2 (by decide +kernel) (.inr (by decide))
      exact doesG_val rfl (ex_binOp rfl e3 e5 (run_eqGuard_agg (P := Tryd.prog) (w := w') .eql 33 _ _ _ _ eqTypeGeo) (by rw [run_eql_geo, near_may])) rfl rfl
    . intro a w' hF hB hd
      have e6 : a.eval (.tmp 6) = .bool (may C P) := hd 3 (by decide +kernel) (.inr (by decide))
      exact doesG_val rfl (ex_assign rfl e6) rfl rfl
  . intro vs w2 hb hv hap
    have e2 : vs 4 = .bool (may C P) := hv 4 (by decide) (by decide)
    simp only [List.take_succ_cons, List.take_zero, List.drop_succ_cons, List.drop_zero, putOps, Act.put, List.setIfInBounds_toArray, List.set_cons_zero, List.set_cons_succ, e2]
    have HB := Lib.hid (W1.out.on hb)
    clear hv hap e2 hb
    go_wp2_with fail
    go_ret
    exact ⟨rfl, HB.out⟩

set_option maxHeartbeats 400000 in
theorem suplace_any (C P : Int) (n : Nat) (hn : n < 4294967296) (w : World) : Calls Tryd.prog 33 #[.agg #[.int .i64 C, .int .i64 P], .int .u32 (n : Int)] w fun e w' => e = .returned (.int .i64 (place C P n)) /\ Below w.heap.size w w' := by
  obtain ⟨R, hR⟩ : ∃ R, R = place C P n := ⟨_, rfl⟩
  rw [<- hR]
  have X1 := Lib.hid (Blk.new w 33 [.int .i64 C, .int .i64 P] _ rfl)
  have W1 := Lib.hid ((Below.refl w.heap.size w).alloc (Nat.le_refl _) (.cells [Value.int .i64 C, .int .i64 P].toArray 33))
  have HM := Lib.hid (fun W => sumay_any C P W)
  unfold place at hR
  by_cases hm : may C P = true
  . rw [hm] at HM
    obtain ⟨_, _, h1, h2⟩ := may_iff.1 hm
    by_cases hk : n <= 65535
    . rw [if_pos ⟨hm, hk⟩] at hR
      have HR := Lib.hid hR
      have HZ := Lib.hid (fun W => susize_any C P ⟨h1, h2⟩ W)
      obtain ⟨Q, hQ⟩ : ∃ Q, Q = P * 512 := ⟨_, rfl⟩
      obtain ⟨M, hM⟩ : ∃ M, M = (n : Int) * Q := ⟨_, rfl⟩
      have hb : 0 <= M /\ M <= 67107840 := by
        rcases (show P = 1 \/ P = 2 by omega) with rfl | rfl <;> (subst hQ; omega)
      rw [<- hQ] at HZ HR
      rw [<- hM] at HR
      have a0 : ¬ (65535 : Int) < (n : Int) := by omega
      have a1 : IntKind.i64.wrap (n : Int) = (n : Int) := by rw [IntKind.wrap_i64]; omega
      have a2 : IntKind.i64.wrap ((n : Int) * Q) = M := by rw [<- hM, IntKind.wrap_i64]; omega
      have a3 : IntKind.i64.wrap (4096 + M) = 4096 + M := by rw [IntKind.wrap_i64]; omega
      clear hM hQ hR h1 h2 hm
      go_enter Tryd.func33, Tryd.ntmps33
      go_wp2_with (first
        | (refine wpList_load_mid rfl 33 (.tmp 2) rfl w.heap.size 0 rfl [.int .i64 C, .int .i64 P] _ X1.out.range Tryd.underlying33 rfl infoGeo ?_)
        | (go_at_call 44; (with_reducible refine (HM.out _).mono ?_); rintro e w2 ⟨rfl, b2⟩; have W2 := Lib.hid (W1.out.on b2); have X2 := Lib.hid (X1.out.below b2 X1.out.lt); have c0 := X2.out.cell 0 _ rfl; have c1 := X2.out.cell 1 _ rfl; clear b2)
        | (refine wpList_load_mid rfl 33 (.tmp 2) rfl w.heap.size 0 rfl [.int .i64 C, .int .i64 P] _ X2.out.range Tryd.underlying33 rfl infoGeo ?_)
        | (go_at_call 58; (with_reducible refine (HZ.out _).mono ?_); rintro e w3 ⟨rfl, b3⟩; have W3 := Lib.hid (W2.out.on b3); clear b3))
      go_ret
      exact ⟨by rw [HR.out]; rfl, W3.out⟩
    . rw [if_neg (fun h => hk h.2)] at hR
      subst hR
      have a0 : (65535 : Int) < (n : Int) := by omega
      clear h1 h2 hm
      go_enter Tryd.func33, Tryd.ntmps33
      go_wp2_with (first
        | (refine wpList_load_mid rfl 33 (.tmp 2) rfl w.heap.size 0 rfl [.int .i64 C, .int .i64 P] _ X1.out.range Tryd.underlying33 rfl infoGeo ?_)
        | (go_at_call 44; (with_reducible refine (HM.out _).mono ?_); rintro e w2 ⟨rfl, b2⟩; have W2 := Lib.hid (W1.out.on b2); have X2 := Lib.hid (X1.out.below b2 X1.out.lt); have c0 := X2.out.cell 0 _ rfl; have c1 := X2.out.cell 1 _ rfl; clear b2))
      go_ret
      exact ⟨rfl, W2.out⟩
  . rw [if_neg (fun h => hm h.1)] at hR
    subst hR
    rw [Bool.eq_false_iff.2 hm] at HM
    clear hm
    go_enter Tryd.func33, Tryd.ntmps33
    go_wp2_with (first
      | (refine wpList_load_mid rfl 33 (.tmp 2) rfl w.heap.size 0 rfl [.int .i64 C, .int .i64 P] _ X1.out.range Tryd.underlying33 rfl infoGeo ?_)
      | (go_at_call 44; (with_reducible refine (HM.out _).mono ?_); rintro e w2 ⟨rfl, b2⟩; have W2 := Lib.hid (W1.out.on b2); have X2 := Lib.hid (X1.out.below b2 X1.out.lt); have c0 := X2.out.cell 0 _ rfl; have c1 := X2.out.cell 1 _ rfl; clear b2))
    go_ret
    exact ⟨rfl, W2.out⟩

end Go.Proofs.YtflnodkajhokhaaDoor
end

section
namespace Go.Proofs.YtflnodkajhokhaaDoor
open Go.ChangeShapes Go.WideShapes Go.ChangeAt Go.RowKit
theorem run_make0 (w : World) (B : Nat) (hB : B <= w.heap.size) (n : Nat) (hn : n <= 1024) : ∃ w', (Instr.makeSlice 25 (.int .i64 0) (.int .i64 (n : Int))).run Tryd.prog w = .ok (.slice (some ⟨w.heap.size, 0, none⟩) 0 n) w' /\ Own w' B (.slice (some ⟨w.heap.size, 0, none⟩) 0 n) [] /\ Below w.heap.size w w' /\ w.heap.size < w'.heap.size := by
  obtain ⟨i0, hi, hz0, hz1, hz2⟩ := info_parts infoB
  obtain ⟨w', hr, ho, hg⟩ := run_makeSlice_owned (P := Tryd.prog) w B 25 5 i0 (.int .u8 0) 1 Tryd.underlying25 hi hz0 hz1 .i64 .i64 n (by omega) (by rw [hz2]; omega) (by unfold maxLen; omega) hB
  exact ⟨w', hr, ⟨ho, fun k => by rw [gb_nil]; omega, by simp⟩, below_of_grown hg, (ho.lt _ rfl).2⟩
theorem wpList_make0 {ops : Array Oper} {rest : List Oper} {o : Oper} {a : Act} {w : World} {Q : Exit -> Act -> World -> Prop} (hgd : o.guard = none) (x y : Operand) (ho : o.op = .makeSlice 25 x y) (B n : Nat) (hn : n <= 1024) (hx : a.eval x = .int .i64 0) (hy : a.eval y = .int .i64 (n : Int)) (hB : B <= w.heap.size)
    (h : ∀ w', Own w' B (.slice (some ⟨w.heap.size, 0, none⟩) 0 n) [] -> Below w.heap.size w w' -> w.heap.size < w'.heap.size -> wpList Tryd.prog ops Q rest (a.put o.dst (.slice (some ⟨w.heap.size, 0, none⟩) 0 n)) w') : wpList Tryd.prog ops Q (o :: rest) a w := by
  refine wpList_plain hgd fun K hK => ?_
  obtain ⟨w', hr, hown, hb, hlt⟩ := run_make0 w B hB n hn
  unfold Oper.wp
  simp only [execOp, ho, hx, hy, Sem.run_bind, hr, Result.andThen_ok, Sem.run_pure, Oper.upon_value]
  exact hK _ _ (h w' hown hb hlt)
end Go.Proofs.YtflnodkajhokhaaDoor
namespace Go.Proofs.YtflnodkajhokhaaDoor
open Go.RowKit
theorem rds_three {w : World} {x y z : Value} {l m n : List Nat} (h : Rd w x l) (k : Rd w y m) (j : Rd w z n) {b : Nat} (hb : b = w.heap.size) : Rds (w.alloc (.cells #[x, y, z] 25)) (.slice (some ⟨b, 0, none⟩) 3 3) [l, m, n] := by
  subst hb
  refine ⟨by simp, .inr ⟨_, 3, rfl, Nat.le_refl _, fun i l' hj => ?_⟩⟩
  match i, hj with
  | 0, hj => simp at hj; subst hj; exact ⟨x, (Blk.new w 25 [x, y, z] _ rfl).cell 0 x rfl, h.alloc _⟩
  | 1, hj => simp at hj; subst hj; exact ⟨y, (Blk.new w 25 [x, y, z] _ rfl).cell 1 y rfl, k.alloc _⟩
  | 2, hj => simp at hj; subst hj; exact ⟨z, (Blk.new w 25 [x, y, z] _ rfl).cell 2 z rfl, j.alloc _⟩
  | i + 3, hj => simp at hj
end Go.Proofs.YtflnodkajhokhaaDoor
namespace Go.Proofs.YtflnodkajhokhaaDoor
open Go.ChangeShapes Go.WideShapes Go.ChangeAt Go.RowKit
open RT
theorem aggRfP (w : World) : (isAgg 37).run Tryd.prog w = .ok true w := by kernel_rfl
theorem infoNdP : (Tryd.prog.info? 43).map (·.size) = some 264 := by kernel_rfl
theorem builtRfP : Tryd.prog.built 37 [] = some (pc ND.zp).toArray := by kernel_rfl
theorem zeroRfP (w : World) : (zeroValue 37).run Tryd.prog w = .ok (.agg (pc ND.zp).toArray) w := by kernel_rfl
theorem pcs_part {ns : List Pg} (h : ∀ p ∈ ns, Pok p) {k : Nat} (hk : k < ns.length) : (pcs ns).toArray.extract (k * 33) (k * 33 + 33) = (pc ns[k]).toArray := by
  apply Array.ext'
  rw [Array.toList_extract]
  show ((pcs ns).drop (k * 33)).take (k * 33 + 33 - k * 33) = pc ns[k]
  rw [show k * 33 + 33 - k * 33 = 33 by omega]
  apply List.ext_getElem?
  intro i
  rw [List.getElem?_take, List.getElem?_drop]
  by_cases hi : i < 33
  . rw [if_pos hi, pcs_get h hk hi]
  . rw [if_neg hi, List.getElem?_eq_none (by rw [pc_len (h _ (List.getElem_mem hk))]; omega)]
theorem idx_node {ns : List Pg} (h : ND.Nok ns) {k : Nat} (hk : k < ns.length) (w : World) : (Instr.index 43 (.agg (pcs ns).toArray) (.int .i64 (k : Int))).run Tryd.prog w = .ok (.agg (pc ns[k]).toArray) w :=
  run_index_part (P := Tryd.prog) 43 37 8 33 (pcs ns).toArray _ k Tryd.underlying43 (by rw [<- h.len]; exact hk) infoRf aggRfP (pcs_part h.ok hk) w
theorem one_pg (p : Pg) : ((pc p).toArray.all (·.oneCell')) = true := by
  rw [List.all_toArray, List.all_eq_true]
  intro u hu
  exact pcs_one' [p] u (by rw [pcs_one]; exact hu)
theorem pc_sum1 {p : Pg} (h : Pok p) : ((pc p).drop 1).take 32 = row8 p.sum := by
  unfold pc
  rw [List.drop_succ_cons, List.drop_zero, List.take_of_length_le (by rw [row8_len, h.2.1]; exact Nat.le_refl _)]
theorem ex_build0 {o : Oper} {a : Act} {w : World} {t : TypeId} {cells : Array Value} (ho : o.op = .build t #[]) (h : Tryd.prog.built t [] = some cells) : (execOp a.eval o).run Tryd.prog w = .ok (.value (.agg cells)) w := ex_build ho (by simpa using h)
end Go.Proofs.YtflnodkajhokhaaDoor
namespace Go.Proofs.YtflnodkajhokhaaDoor
open Go.ChangeShapes Go.WideShapes Go.ChangeAt Go.RowKit
open RT
set_option maxRecDepth 100000 in
set_option maxHeartbeats 2000000 in
theorem npput_any (ns : List Pg) (hn : ND.Nok ns) (w : World) : Calls Tryd.prog 20 #[.agg (pcs ns).toArray] w fun e w' => ∃ v, e = .returned v /\ Own w' w.heap.size v (ones ns) /\ Below w.heap.size w w' := by
  obtain ⟨L, hL⟩ : ∃ L, L = pcs ns := ⟨_, rfl⟩
  have W1 := Lib.hid ((Below.refl w.heap.size w).alloc (Nat.le_refl _) (.cells L.toArray 43))
  have X1 := Lib.hid (Blk.new w 43 L _ rfl)
  have L264 := Lib.hid (show L.length = 264 by rw [hL]; exact ND.pcs_len8 hn)
  have HIX := Lib.hid (fun k (hk : k < ns.length) => idx_node hn hk)
  have H8 := Lib.hid hn.len
  have HPK := Lib.hid hn.ok
  have HOL := Lib.hid (fun k (hk : k <= ns.length) => (show (ones (ns.take k)).length = k * 36 by rw [ones_len (fun p hp => hn.ok p (List.mem_of_mem_take hp)), List.length_take, Nat.min_eq_left hk]))
  rw [<- hL] at HIX
  rw [<- hL]
  have hzr := zeroRfP
  obtain ⟨Z, hZ⟩ : ∃ Z, Z = pc ND.zp := ⟨_, rfl⟩
  rw [<- hZ] at hzr
  have ZL := Lib.hid (show Z.length = 33 by rw [hZ]; exact pc_len ND.zp_ok)
  clear hL hn hZ
  go_enter Tryd.func20, Tryd.ntmps20
  go_wp2_with (first
    | ((with_reducible show wpList _ _ _ (Oper.mk _ (.makeSlice _ _ _) _ _ _ _ :: _) _ _); refine wpList_make0 rfl (.const (.int .i64 0)) (.const (.int .i64 288)) rfl w.heap.size 288 (by decide) rfl rfl W1.out.size ?_; intro w2 o2 b2 l2; have O2 := Lib.hid o2; have W2 := Lib.hid (W1.out.on b2); have X2 := Lib.hid (X1.out.below b2 X1.out.lt); clear o2 b2 l2)
    | ((with_reducible show wpList _ _ _ (Oper.mk _ (.load _ (.tmp 1)) _ _ _ _ :: _) _ _); refine wpList_load_mid rfl 43 (.tmp 1) rfl w.heap.size 0 rfl L _ X2.out.range Tryd.underlying43 rfl (by rw [L264.out]; exact infoNdP) ?_))
  go_loopw [3, 8] (fun s i wr => ∃ k : Nat, k <= 8 /\ i = .int .i64 (k : Int) /\ Own wr w.heap.size s (ones (ns.take k)) /\ Below w.heap.size w wr) (fun _ i _ => 8 - (intOf i).toNat)
  case atStart => exact ⟨0, by decide, rfl, by rw [show ones (ns.take 0) = [] from rfl]; have q := O2.out; simpa using q, W2.out⟩
  case round =>
    clear O2 W2 W1 X1 X2
    obtain ⟨k, hk, rfl, ho, hw⟩ := hrel
    have W5 := Lib.hid hw
    have O5 := Lib.hid ho
    clear ho hw
    obtain ⟨sa, sq, rfl, _⟩ := O5.out.rd.shape
    obtain ⟨M, hM⟩ : ∃ M, M = ones (ns.take k) := ⟨_, rfl⟩
    have HML := Lib.hid (show M.length <= 288 by rw [hM, HOL.out k (by rw [H8.out]; exact hk)]; omega)
    have HMM := Lib.hid hM
    rw [<- hM] at O5 ⊢
    obtain ⟨ml, hml⟩ : ∃ x, x = M.length := ⟨_, rfl⟩
    rw [<- hml] at O5 HML ⊢
    have HLL := Lib.hid hml
    clear hM hml
    by_cases hlt : k < 8
    . have hkp : k < ns.length := by rw [H8.out]; exact hlt
      have hix := HIX.out k hkp
      have POK := HPK.out _ (List.getElem_mem hkp)
      have PL := Lib.hid (pc_len POK)
      have PG1 := Lib.hid (one_pg ns[k])
      have hklt : (k : Int) < 8 := by omega
      have hk0 : (0 : Int) <= (k : Int) := by omega
      have HNX := Lib.hid (show ones (ns.take (k + 1)) = (M ++ be ns[k].at_ 4) ++ ns[k].sum by
        rw [ones_take hkp, HMM.out]; unfold one; simp only [List.append_assoc])
      have HP32 := Lib.hid (fun W => put32_any ns[k].at_ POK.1 W)
      have BSM := Lib.hid POK.2
      have HPC0 := Lib.hid (show (pc ns[k])[0]? = some (.int .u32 (ns[k].at_ : Int)) from rfl)
      have HPC1 := Lib.hid (pc_sum1 POK)
      obtain ⟨PG, hPG⟩ : ∃ x, x = pc ns[k] := ⟨_, rfl⟩
      obtain ⟨AT, hAT⟩ : ∃ x, x = ns[k].at_ := ⟨_, rfl⟩
      obtain ⟨SM_, hSM⟩ : ∃ x, x = ns[k].sum := ⟨_, rfl⟩
      rw [<- hPG] at hix PL HPC0 HPC1 PG1
      rw [<- hAT] at HNX HP32 HPC0
      rw [<- hSM] at HNX BSM HPC1
      have P1 := Lib.hid (Blk.new wr 37 Z wr.heap.size rfl)
      have bA := (Below.refl wr.heap.size wr).alloc (Nat.le_refl _) (.cells Z.toArray 37)
      have W6 := Lib.hid (W5.out.on bA)
      have O6 := Lib.hid (O5.out.below bA)
      have OLT := Lib.hid (fun g (hg : (Value.slice sa ml sq).ownBlock = some g) => (O5.out.from g hg))
      have WRS := Lib.hid W5.out.size
      clear POK hPG hAT hSM bA O5 HIX
      go_wp2_with (first
        | ((with_reducible show wpList _ _ _ (Oper.mk _ (.store _ (.tmp 5) (.tmp 10)) _ _ _ _ :: _) _ _); refine wpList_store_blk rfl 37 (.tmp 5) (.tmp 10) rfl wr.heap.size 0 PG rfl rfl 37 Z P1.out (by have := PL.out; have := ZL.out; omega) (by rw [PL.out]; exact infoRf) PG1.out ?_; intro w7 b7 g7; rw [splice_all _ _ (by have := PL.out; have := ZL.out; omega)] at b7; have P7 := Lib.hid b7; have W7 := Lib.hid (W6.out.grown g7 W6.out.size (fun g hg => by have := WRS.out; have := Option.some.inj hg; omega)); have O7 := Lib.hid (O6.out.keep g7 (.inr (fun e => by have := (OLT.out _ e).2; omega))); have c0 := b7.cell 0 _ HPC0.out; clear b7 g7)
        | (go_at_call 37; (with_reducible refine (HP32.out _).mono ?_); rintro e w8 ⟨v8, rfl, o8, b8⟩; have R8 := Lib.hid o8.rd; have W8 := Lib.hid (W7.out.on b8); have O8 := Lib.hid (O7.out.below b8); have P8 := Lib.hid (P7.out.below b8 P7.out.lt); clear o8 b8)
        | ((with_reducible show wpList _ _ _ (Oper.mk (some 15) _ _ _ _ _ :: _) _ _); refine wpList_app rfl (.tmp 11) (.tmp 14) rfl w.heap.size _ _ M (be AT 4) rfl rfl O8.out R8.out (by rw [<- HLL.out, be_len]; have := HML.out; omega) W8.out.size ?_; intro v9 w9 o9 g9 k9; have O9 := Lib.hid o9; have W9 := Lib.hid (W8.out.grown g9 W8.out.size (fun g hg => (OLT.out g hg).1)); have P9 := Lib.hid (P8.out.grown g9 (fun e => by have := (OLT.out _ e.symm).2; omega)); have R9 := Lib.hid (rd_part P9.out BSM.out HPC1.out (by decide)); have OF9 := Lib.hid (fun g hg => (O9.out.from g hg).1); clear o9 g9 k9)
        | ((with_reducible show wpList _ _ _ (Oper.mk (some 19) _ _ _ _ _ :: _) _ _); refine wpList_app rfl (.tmp 16) (.tmp 18) rfl w.heap.size _ _ (M ++ be AT 4) SM_ rfl rfl O9.out R9.out (by rw [List.length_append, <- HLL.out, be_len, BSM.out.1]; have := HML.out; omega) W9.out.size ?_; intro v10 w10 o10 g10 k10; have O10 := Lib.hid o10; have W10 := Lib.hid (W9.out.grown g10 W9.out.size OF9.out); clear o10 g10 k10))
      exact ⟨⟨k + 1, by omega, by go_num, by rw [HNX.out]; exact O10.out, W10.out⟩, by simp [intOf]; omega⟩
    . obtain rfl : k = 8 := by omega
      have HA : ones (ns.take 8) = ones ns := by rw [List.take_of_length_le (by rw [H8.out]; exact Nat.le_refl _)]
      rw [HMM.out, HA] at O5
      clear HA
      go_wp2_with fail
      go_ret
      exact ⟨_, rfl, O5.out, W5.out⟩
end Go.Proofs.YtflnodkajhokhaaDoor
end

section
namespace Go.Proofs.YtflnodkajhokhaaDoor
open Go.ChangeShapes Go.WideShapes Go.ChangeAt Go.RowKit
open RT XM AM
theorem wpList_enter {P : Program} {ops : Array Oper} {rest : List Oper} {op : Oper} {a : Act} {w : World} {Q : Exit -> Act -> World -> Prop} {g : FuncId} {args : Array Value} {post : Ending -> World -> Prop} (hw : Region.wanted op (yielded ops a.tmps) = true) (h : (execOp a.eval op).run P w = .ok (.enter g args) w) (hc : Calls P g args w post) (hr : ∀ e w', post e w' -> ∃ v, e = .returned v /\ wpList P ops Q rest (a.put op.dst v) w') : wpList P ops Q (op :: rest) a w :=
  wpList_step fun K hK => by
    rw [if_pos hw]
    unfold Oper.wp
    rw [h, Oper.upon_enter]
    refine hc.mono fun e w' hh => ?_
    obtain ⟨v, rfl, hq⟩ := hr e w' hh
    exact hK _ _ hq
theorem ex_call_cl {o : Oper} {a : Act} {w : World} {t : Operand} {F : FuncId} {cs : Array Value} {xs : Array Operand} {ts : Array TypeId} {vs : Array Value} (ho : o.op = .call { callee := .value t, args := xs, argTypes := ts }) (ht : a.eval t = .func (.func F) #[] cs) (hx : xs.map a.eval = vs) (hf : (callFunc F (vs ++ cs)).run Tryd.prog w = .ok (.enter F (vs ++ cs)) w) : (execOp a.eval o).run Tryd.prog w = .ok (.enter F (vs ++ cs)) w := by
  subst hx
  obtain ⟨ρ, hρ⟩ : ∃ ρ, ρ = a.eval := ⟨_, rfl⟩
  rw [<- hρ] at ht hf ⊢
  unfold execOp
  rw [ho]
  simp only [resolve, ht]
  go_simp
  rw [<- hρ]
  exact hf
theorem Cph.kept {B : Nat} {A : Nat -> Prop} {w w' : World} {c : Nat} {K : List Nat} (h : Cph w c K) (k : Kept B A w w') (hz : c < B \/ A c) : Cph w' c K := ⟨h.1, h.2.kept k hz⟩
def spp (d x : Nat) (p : SP.Sp) : List Value := .pointer (some ⟨d, 0, none⟩) :: .int .i64 (p.cl : Int) :: .int .i64 (p.per : Int) :: .pointer (some ⟨x, 0, none⟩) :: row8 p.tag
def Spa (Z : Nat -> Prop) (w : World) (s d : Nat) (p : SP.Sp) : Prop := ∃ x c e, (Z s /\ Z x /\ Z c /\ Z e) /\ Blk w s 58 (spp d x p) /\ Blk w x 75 [.pointer (some ⟨c, 0, none⟩), .pointer (some ⟨e, 0, none⟩)] /\ Cph w c p.one /\ Cph w e p.two
section
variable {Z Z' : Nat -> Prop} {w w' : World} {s d : Nat} {p : SP.Sp}
theorem Spa.lt (h : Spa Z w s d p) : s < w.heap.size := by obtain ⟨_, _, _, _, h, _⟩ := h; exact h.lt
theorem Spa.below (h : Spa Z w s d p) (hb : Below w.heap.size w w') : Spa Z w' s d p := by
  obtain ⟨x, c, e, hz, h1, h2, h3, h4⟩ := h
  exact ⟨x, c, e, hz, h1.below hb h1.lt, h2.below hb h2.lt, h3.below hb, h4.below hb⟩
theorem Spa.kept {B : Nat} {A : Nat -> Prop} (h : Spa Z w s d p) (k : Kept B A w w') (hZ : ∀ i, Z i -> i < B \/ A i) : Spa Z w' s d p := by
  obtain ⟨x, c, e, hz, h1, h2, h3, h4⟩ := h
  exact ⟨x, c, e, hz, h1.kept k (hZ _ hz.1), h2.kept k (hZ _ hz.2.1), h3.kept k (hZ _ hz.2.2.1), h4.kept k (hZ _ hz.2.2.2)⟩
theorem Spa.more (h : Spa Z w s d p) (hZ : ∀ i, Z i -> Z' i) : Spa Z' w s d p := by
  obtain ⟨x, c, e, hz, h1⟩ := h
  exact ⟨x, c, e, ⟨hZ _ hz.1, hZ _ hz.2.1, hZ _ hz.2.2.1, hZ _ hz.2.2.2⟩, h1⟩
theorem Spa.cells (h : Spa Z w s d p) : ∃ x, w.cell? ⟨s, 0, none⟩ = some (.pointer (some ⟨d, 0, none⟩)) /\ w.cell? ⟨s, 2, none⟩ = some (.int .i64 (p.per : Int)) /\ w.cell? ⟨s, 3, none⟩ = some (.pointer (some ⟨x, 0, none⟩)) /\ Xt w x p.one p.two := by
  obtain ⟨x, c, e, _, h1, h2, h3, h4⟩ := h
  exact ⟨x, h1.cell 0 _ rfl, h1.cell 2 _ rfl, h1.cell 3 _ rfl, c, e, h2, h3, h4⟩
theorem Spa.geo (h : Spa Z w s d p) : w.rangeAt s 1 [.int .i64 (p.cl : Int), .int .i64 (p.per : Int)] := by
  obtain ⟨x, c, e, _, h1, _⟩ := h
  exact range_part h1 1 _ fun j v hv => by
    match j, hv with
    | 0, hv => exact hv
    | 1, hv => exact hv
    | j + 2, hv => simp at hv
theorem Spa.tag (h : Spa Z w s d p) : w.rangeAt s 4 (row8 p.tag) := by
  obtain ⟨x, c, e, _, h1, _⟩ := h
  exact range_part h1 4 _ fun j v hv => by
    unfold spp
    rw [show 4 + j = j + 1 + 1 + 1 + 1 by omega]
    simp only [List.getElem?_cons_succ]
    exact hv
end
structure PTabs (Z : Nat -> Prop) (w : World) : Prop where
  x : TabX w
  u : TabU w
  p : TabP w
  zx : Z 1
  zu : Z 2
  zp : Z 0
theorem PTabs.below {Z : Nat -> Prop} {w w' : World} (h : PTabs Z w) (hb : Below w.heap.size w w') : PTabs Z w' := ⟨h.x.below hb, h.u.below hb, h.p.below hb, h.zx, h.zu, h.zp⟩
theorem PTabs.kept {Z : Nat -> Prop} {B : Nat} {A : Nat -> Prop} {w w' : World} (h : PTabs Z w) (k : Kept B A w w') (hZ : ∀ i, Z i -> i < B \/ A i) : PTabs Z w' :=
  ⟨h.x.keep (k.block _ h.x.lt (hZ _ h.zx)), h.u.keep (k.block _ h.u.lt (hZ _ h.zu)), h.p.keep (k.block _ h.p.lt (hZ _ h.zp)), h.zx, h.zu, h.zp⟩
theorem PTabs.more {Z Z' : Nat -> Prop} {w : World} (h : PTabs Z w) (hZ : ∀ i, Z i -> Z' i) : PTabs Z' w := ⟨h.x, h.u, h.p, hZ _ h.zx, hZ _ h.zu, hZ _ h.zp⟩
theorem Kept.less {B : Nat} {A A' : Nat -> Prop} {w w' : World} (h : Kept B A w w') (k : ∀ i, A' i -> A i) : Kept B A' w w' := ⟨h.os, h.tape, h.output, h.size, fun i hi q => h.block i hi (q.imp_right (k i))⟩
set_option maxHeartbeats 400000 in
theorem spsize_any {Z : Nat -> Prop} {w : World} {s d : Nat} {p : SP.Sp} (hp : SP.Ok p) (h : Spa Z w s d p) : Calls Tryd.prog 31 #[.pointer (some ⟨s, 0, none⟩)] w fun e w' => e = .returned (.int .i64 (SP.size p : Int)) /\ w' = w := by
  obtain ⟨x, _, c2, _⟩ := h.cells
  have hp := hp.per
  have hw : IntKind.i64.wrap ((p.per : Int) * 512) = (SP.size p : Int) := by unfold SP.size; rw [IntKind.wrap_i64]; omega
  obtain ⟨z, hz⟩ : ∃ z, z = SP.size p := ⟨_, rfl⟩
  obtain ⟨q, hq⟩ : ∃ q, q = p.per := ⟨_, rfl⟩
  rw [<- hq] at c2 hw hp
  rw [<- hz] at hw
  rw [<- hz]
  clear hz hq h
  go_enter Tryd.func31, Tryd.ntmps31
  go_wp2_with fail
  go_ret
  exact ⟨by first | rfl | (rw [hw]) | (simp [hw]), rfl⟩
set_option maxHeartbeats 400000 in
theorem spfaulted_any (e : Int) (w : World) : Calls Tryd.prog 34 #[.int .i64 e] w fun r w' => r = .returned (.int .i64 (SP.told e)) /\ w' = w := by
  unfold SP.told
  by_cases h : e = 43
  . rw [if_pos h]
    subst h
    go_enter Tryd.func34, Tryd.ntmps34
    go_wp2_with fail
    go_ret
    exact ⟨rfl, rfl⟩
  . rw [if_neg h]
    go_enter Tryd.func34, Tryd.ntmps34
    go_wp2_with fail
    go_ret
    exact ⟨rfl, rfl⟩
theorem infoGeoP : (Tryd.prog.info? 33).map (·.size) = some 2 := by kernel_rfl
set_option maxHeartbeats 1000000 in
theorem spsector_any {Z : Nat -> Prop} {w : World} {s d : Nat} {p : SP.Sp} (hp : SP.Ok p) (h : Spa Z w s d p) (n : Nat) (hn : n <= 65535) : Calls Tryd.prog 24 #[.pointer (some ⟨s, 0, none⟩), .int .u32 (n : Int)] w fun e w' => e = .returned (.int .u64 (SP.sect p n : Int)) /\ Below w.heap.size w w' := by
  have W0 := Lib.hid (Below.refl w.heap.size w)
  have G1 := Lib.hid h.geo
  have HP := Lib.hid (fun W => suplace_any (p.cl : Int) (p.per : Int) n (by omega) W)
  rw [SP.su_place hp hn] at HP
  have hpl := SP.place_le hp hn
  have hps := SP.place_sect p n
  obtain ⟨P, hP⟩ : ∃ P, P = SP.place p n := ⟨_, rfl⟩
  obtain ⟨Q, hQ⟩ : ∃ Q, Q = SP.sect p n := ⟨_, rfl⟩
  rw [<- hP] at HP hpl hps
  rw [<- hQ] at hps
  rw [<- hQ]
  have hd : (P : Int) / 512 = (Q : Int) := by omega
  have hd2 : IntKind.i64.wrap ((P : Int) / 512) = (Q : Int) := by rw [hd, IntKind.wrap_i64]; omega
  have hd3 : IntKind.u64.wrap (Q : Int) = (Q : Int) := by rw [IntKind.wrap_u64]; omega
  clear hP hQ hp hn hps h
  go_enter Tryd.func24, Tryd.ntmps24
  go_wp2_with (first
    | ((with_reducible show wpList _ _ _ (Oper.mk _ (.load _ (.tmp 7)) _ _ _ _ :: _) _ _); refine wpList_load_mid rfl 33 (.tmp 7) rfl s 1 rfl _ _ G1.out Tryd.underlying33 rfl infoGeoP ?_)
    | (go_at_call 33; (with_reducible refine (HP.out _).mono ?_); rintro e w2 ⟨rfl, b2⟩; have W2 := Lib.hid (W0.out.on b2); clear b2))
  go_ret
  exact ⟨by first | rfl | (simp [hd3]), W2.out⟩
end Go.Proofs.YtflnodkajhokhaaDoor
end

section
namespace Go.Proofs.YtflnodkajhokhaaDoor
open Go.ChangeShapes Go.WideShapes Go.ChangeAt Go.RowKit
open RT
theorem built_refN (n : Int) {K : List Nat} (hK : Bytes 32 K) : Tryd.prog.built 37 [(0, .int .u32 n), (1, .agg (row8 K).toArray)] = some (.int .u32 n :: row8 K).toArray := by
  have hz : (pc ND.zp).length = 33 := pc_len ND.zp_ok
  have e : Tryd.prog.built 37 [(0, .int .u32 n), (1, .agg (row8 K).toArray)] = Instr.fill (#[(0, 1), (1, 32)][·]?) (pc ND.zp).toArray [(0, .int .u32 n), (1, .agg (row8 K).toArray)] := by kernel_rfl
  rw [e, fill_step _ 0 0 1 rfl (.int .u32 n) [.int .u32 n] rfl rfl (pc ND.zp) (by rw [hz]; decide), fill_step _ 1 1 32 rfl (.agg (row8 K).toArray) (row8 K) rfl (by rw [row8_len, hK.1]) _ (by rw [length_splice _ _ _ (by rw [hz]; exact (show 0 + 1 <= 33 by decide)), hz]; exact (show 1 + 32 <= 33 by decide)), fill_nil]
  have e1 : (row8 K).length = 32 := by rw [row8_len]; exact hK.1
  have e2 : (row8 (List.replicate 32 0)).length = 32 := by rw [row8_len, List.length_replicate]
  have e3 : splice (splice (pc ND.zp) 0 [.int .u32 n]) 1 (row8 K) = .int .u32 n :: row8 K := by
    unfold splice pc ND.zp
    rw [e1]
    show [Value.int .u32 n] ++ (row8 K ++ List.drop 32 (row8 (List.replicate 32 0))) = _
    rw [List.drop_of_length_le (by rw [e2]; exact Nat.le_refl _), List.append_nil]
    rfl
  rw [e3]
end Go.Proofs.YtflnodkajhokhaaDoor
namespace Go.Proofs.YtflnodkajhokhaaDoor
open Go.ChangeShapes Go.WideShapes Go.ChangeAt Go.RowKit
open SM
set_option maxRecDepth 100000 in
set_option maxHeartbeats 1000000 in
theorem npsum_any (b : List Nat) (v : Value) (w : World) (hv : Rd w v b) (ht : TabP w) : Calls Tryd.prog 21 #[v] w fun e w' => e = .returned (.agg (row8 (sha ([110, 111, 100, 101] ++ b))).toArray) /\ Below w.heap.size w w' := by
  have hfit := hv.fits
  obtain ⟨va, vc, rfl, hvc⟩ := hv.shape
  obtain ⟨M, hM⟩ : ∃ M, M = sha ([110, 111, 100, 101] ++ b) := ⟨_, rfl⟩
  obtain ⟨D0, hD0⟩ : ∃ D, D = row8 (List.replicate 32 0) := ⟨_, rfl⟩
  have hz : ∀ w, (zeroValue 35).run Tryd.prog w = .ok (.agg D0.toArray) w := by rw [hD0]; exact zeroSmN
  have hd0 : D0.length = 32 := by rw [hD0, row8_len, List.length_replicate]
  have M32 := Lib.hid (show (row8 M).length = 32 by rw [row8_len, hM]; exact (sha_bytes _).1)
  obtain ⟨w1, hw1⟩ : ∃ x, x = w.alloc (.cells D0.toArray 35) := ⟨_, rfl⟩
  have W1 := Lib.hid (show Below w.heap.size w w1 by rw [hw1]; exact (Below.refl w.heap.size w).alloc (Nat.le_refl _) (.cells D0.toArray 35))
  have R1 := Lib.hid (show Blk w1 w.heap.size 35 D0 by rw [hw1]; exact Blk.new w 35 D0 _ rfl)
  have b12 := (Below.refl w1.heap.size w1).alloc (Nat.le_refl _) (.cells (row8 [110, 111, 100, 101]).toArray 5 (4, 5))
  have W2 := Lib.hid (W1.out.on b12)
  have R2 := Lib.hid (R1.out.below b12 R1.out.lt)
  have HOF := Lib.hid (of_two_at (b := w1.heap.size + 1) (w := w1.alloc (.cells (row8 [110, 111, 100, 101]).toArray 5 (4, 5))) (S := M) (by simp) (rd_const w1 [110, 111, 100, 101] (small_bytes (by decide)) (by decide) 4 rfl w1.heap.size rfl (4, 5)) ((hv.below W1.out).alloc _) (ht.below W2.out) (by show 4 + _ <= _; omega) hM)
  have kc := fun (w : World) (C : Array Value) (n c : Nat) => Lib.run_convert_bytes_const (P := Tryd.prog) w 25 5 C n c Tryd.underlying25 Tryd.underlying5
  rw [<- hM]
  clear hM hD0 ht hv b12 hfit hvc
  go_enter Tryd.func21, Tryd.ntmps21
  go_upto_region 1 with fail
  rw [<- hw1]
  clear hw1
  go_wp2_with (first
    | (go_at_call 28; (refine HOF.out.mono ?_); rintro e w4 ⟨rfl, b4⟩; have W4 := Lib.hid (W2.out.on b4); have R4 := Lib.hid (R2.out.below b4 R2.out.lt); clear b4)
    | ((with_reducible show wpList _ _ _ (Oper.mk _ (.store _ (.tmp 2) (.tmp 7)) _ _ _ _ :: _) _ _); refine wpList_store_blk rfl 35 (.tmp 2) (.tmp 7) rfl w.heap.size 0 (row8 M) rfl rfl 35 D0 R4.out (by rw [M32.out, hd0]; exact Nat.le_refl _) (by rw [M32.out]; exact infoS) (row8_one _) ?_; intro w5 b5 g5; rw [splice_all _ _ (by rw [M32.out, hd0])] at b5; have U5 := Lib.hid b5; have W5 := Lib.hid (W4.out.grown g5 W4.out.size (fun g hg => by have := Option.some.inj hg; omega)); clear b5 g5))
  exact bodyPost_ret (results_mid rfl _ _ w.heap.size (row8 M) _ rfl U5.out.range Tryd.underlying35 rfl (by rw [M32.out]; exact infoS)) rfl ⟨rfl, W5.out⟩
set_option maxRecDepth 100000 in
set_option maxHeartbeats 1000000 in
theorem nppage_any (b : List Nat) (v : Value) (w : World) (hv : Rd w v b) (ht : TabP w) : Calls Tryd.prog 19 #[v] w fun e w' => e = .returned (.agg (row8 (sha ([112, 97, 103, 101] ++ b))).toArray) /\ Below w.heap.size w w' := by
  have hfit := hv.fits
  obtain ⟨va, vc, rfl, hvc⟩ := hv.shape
  obtain ⟨M, hM⟩ : ∃ M, M = sha ([112, 97, 103, 101] ++ b) := ⟨_, rfl⟩
  obtain ⟨D0, hD0⟩ : ∃ D, D = row8 (List.replicate 32 0) := ⟨_, rfl⟩
  have hz : ∀ w, (zeroValue 35).run Tryd.prog w = .ok (.agg D0.toArray) w := by rw [hD0]; exact zeroSmN
  have hd0 : D0.length = 32 := by rw [hD0, row8_len, List.length_replicate]
  have M32 := Lib.hid (show (row8 M).length = 32 by rw [row8_len, hM]; exact (sha_bytes _).1)
  obtain ⟨w1, hw1⟩ : ∃ x, x = w.alloc (.cells D0.toArray 35) := ⟨_, rfl⟩
  have W1 := Lib.hid (show Below w.heap.size w w1 by rw [hw1]; exact (Below.refl w.heap.size w).alloc (Nat.le_refl _) (.cells D0.toArray 35))
  have R1 := Lib.hid (show Blk w1 w.heap.size 35 D0 by rw [hw1]; exact Blk.new w 35 D0 _ rfl)
  have b12 := (Below.refl w1.heap.size w1).alloc (Nat.le_refl _) (.cells (row8 [112, 97, 103, 101]).toArray 5 (4, 5))
  have W2 := Lib.hid (W1.out.on b12)
  have R2 := Lib.hid (R1.out.below b12 R1.out.lt)
  have HOF := Lib.hid (of_two_at (b := w1.heap.size + 1) (w := w1.alloc (.cells (row8 [112, 97, 103, 101]).toArray 5 (4, 5))) (S := M) (by simp) (rd_const w1 [112, 97, 103, 101] (small_bytes (by decide)) (by decide) 4 rfl w1.heap.size rfl (4, 5)) ((hv.below W1.out).alloc _) (ht.below W2.out) (by show 4 + _ <= _; omega) hM)
  have kc := fun (w : World) (C : Array Value) (n c : Nat) => Lib.run_convert_bytes_const (P := Tryd.prog) w 25 5 C n c Tryd.underlying25 Tryd.underlying5
  rw [<- hM]
  clear hM hD0 ht hv b12 hfit hvc
  go_enter Tryd.func19, Tryd.ntmps19
  go_upto_region 1 with fail
  rw [<- hw1]
  clear hw1
  go_wp2_with (first
    | (go_at_call 28; (refine HOF.out.mono ?_); rintro e w4 ⟨rfl, b4⟩; have W4 := Lib.hid (W2.out.on b4); have R4 := Lib.hid (R2.out.below b4 R2.out.lt); clear b4)
    | ((with_reducible show wpList _ _ _ (Oper.mk _ (.store _ (.tmp 2) (.tmp 7)) _ _ _ _ :: _) _ _); refine wpList_store_blk rfl 35 (.tmp 2) (.tmp 7) rfl w.heap.size 0 (row8 M) rfl rfl 35 D0 R4.out (by rw [M32.out, hd0]; exact Nat.le_refl _) (by rw [M32.out]; exact infoS) (row8_one _) ?_; intro w5 b5 g5; rw [splice_all _ _ (by rw [M32.out, hd0])] at b5; have U5 := Lib.hid b5; have W5 := Lib.hid (W4.out.grown g5 W4.out.size (fun g hg => by have := Option.some.inj hg; omega)); clear b5 g5))
  exact bodyPost_ret (results_mid rfl _ _ w.heap.size (row8 M) _ rfl U5.out.range Tryd.underlying35 rfl (by rw [M32.out]; exact infoS)) rfl ⟨rfl, W5.out⟩
theorem hof_three {w : World} {u v : Value} {l m n k S : List Nat} (hu : Rd w u l) (hv : Rds w v [m, n, k]) (ht : TabP w) (hn : m.length + n.length + k.length <= 1152921504606846900) (hS : S = mac l (m ++ n ++ k)) :
    Calls Tryd.prog 30 #[u, v] w fun e w' => e = .returned (.agg (row8 S).toArray) /\ Below w.heap.size w w' := by
  have e : [m, n, k].flatten = m ++ n ++ k := by simp
  have h1 := hof_any l [m, n, k] (by rw [e, List.length_append, List.length_append]; exact hn) u _ _ hu hv ht
  rw [e, <- hS] at h1
  exact h1
set_option maxRecDepth 100000 in
set_option maxHeartbeats 2000000 in
theorem npleaf_any (key : List Nat) (hkey : Bytes 32 key) (at_ : Nat) (ha : at_ < 4294967296) (b : List Nat) (v : Value) (w : World) (hv : Rd w v b) (ht : TabP w) : Calls Tryd.prog 41 #[.agg (row8 key).toArray, .int .u32 (at_ : Int), v] w fun e w' => e = .returned (.agg (row8 (mac key ([108, 101, 97, 102] ++ be at_ 4 ++ b))).toArray) /\ Below w.heap.size w w' := by
  have hfit := hv.fits
  obtain ⟨va, vc, rfl, hvc⟩ := hv.shape
  obtain ⟨bl, hbl⟩ : ∃ n, n = b.length := ⟨_, rfl⟩
  rw [<- hbl] at hfit hv ⊢
  obtain ⟨M, hM⟩ : ∃ M, M = mac key ([108, 101, 97, 102] ++ be at_ 4 ++ b) := ⟨_, rfl⟩
  obtain ⟨KC, hKC⟩ : ∃ L, L = row8 key := ⟨_, rfl⟩
  obtain ⟨D0, hD0⟩ : ∃ D, D = row8 (List.replicate 32 0) := ⟨_, rfl⟩
  have hz : ∀ w, (zeroValue 35).run Tryd.prog w = .ok (.agg D0.toArray) w := by rw [hD0]; exact zeroSmN
  have hd0 : D0.length = 32 := by rw [hD0, row8_len, List.length_replicate]
  have M32 := Lib.hid (show (row8 M).length = 32 by rw [row8_len, hM]; exact (sha_bytes _).1)
  have HKC := Lib.hid (show (KC.drop 0).take 32 = row8 key by rw [hKC, List.drop_zero, List.take_of_length_le (by rw [row8_len, hkey.1]; exact Nat.le_refl _)])
  have HKY := Lib.hid hkey
  have HV := Lib.hid hv
  have HBL := Lib.hid hbl
  have HMA := Lib.hid (show ∀ (u x : Value) W, Below w.heap.size w W -> Rd W u key -> Rds W x [[108, 101, 97, 102], be at_ 4, b] -> Calls Tryd.prog 30 #[u, x] W fun e w' => e = .returned (.agg (row8 M).toArray) /\ Below W.heap.size W w' from fun u x W hW hu hx =>
    hof_three hu hx (ht.below hW) (by rw [be_len]; show 4 + 4 + _ <= _; omega) hM)
  have HN4 := Lib.hid (fun W => put32_any at_ ha W)
  rw [<- hM, <- hKC]
  obtain ⟨w1, hw1⟩ : ∃ x, x = (w.alloc (.cells KC.toArray 23)).alloc (.cells D0.toArray 35) := ⟨_, rfl⟩
  have W1 := Lib.hid (show Below w.heap.size w w1 by rw [hw1]; exact ((Below.refl w.heap.size w).alloc (Nat.le_refl _) _).alloc (by simp) _)
  have K1 := Lib.hid (show Blk w1 w.heap.size 23 KC by rw [hw1]; exact (Blk.new w 23 KC _ rfl).alloc _)
  have R1 := Lib.hid (show Blk w1 (w.heap.size + 1) 35 D0 by rw [hw1]; exact Blk.new _ 35 D0 _ (by simp))
  clear hM hKC hD0 hv ht hkey hfit hvc hbl
  go_enter Tryd.func41, Tryd.ntmps41
  go_upto_region 1 with fail
  rw [<- hw1]
  clear hw1
  refine wp_region_c (by kernel_rfl) 8 (by decide) (by kernel_rfl) (by kernel_rfl) (by kernel_rfl) w1.heap.size rfl [.val (.slice (some ⟨w.heap.size, 0, none⟩) 32 32), .lit ([108, 101, 97, 102]), .rd ([108, 101, 97, 102]), .val (.int .u32 (at_ : Int)), .rd (be at_ 4), .val (.slice va bl vc), .rds [[108, 101, 97, 102], be at_ 4, b], .val (.agg (row8 M).toArray)] ?_ ?_
  . refine ⟨?_, ?_, ?_, ?_, ?_, ?_, ?_, ?_, trivial⟩
    . intro a w' hF hB hd
      have e3 : a.eval (.tmp 3) = .pointer (some ⟨w.heap.size, 0, none⟩) := hF 3 (by decide +kernel)
      exact doesC_val rfl (v := .slice (some ⟨w.heap.size, 0, none⟩) 32 32) (by unfold execOp; simp only [e3]; go_simp) rfl
    . intro a w' hF hB hd
      refine doesC_wp hB.below.size rfl fun K hK => ?_
      unfold Oper.wp execOp
      go_simp
      exact hK _ _ ⟨_, rfl, hB.below.size, (own_new w' [108, 101, 97, 102] (small_bytes (by decide)) (by decide) rfl (Nat.le_refl _)).rd, by simp⟩ ((Below.refl _ _).alloc (Nat.le_refl _) _)
    . intro a w' hF hB hd
      exact doesC_mark rfl (.tmp 8) rfl [108, 101, 97, 102] (hd 1 (by decide +kernel))
    . intro a w' hF hB hd
      have e1 : a.eval (.tmp 1) = .int .u32 (at_ : Int) := hF 1 (by decide +kernel)
      exact doesC_val rfl (ex_move rfl e1) rfl
    . intro a w' hF hB hd
      have e10 : a.eval (.tmp 10) = .int .u32 (at_ : Int) := hd 3 (by decide +kernel)
      exact doesC_call hB.below.size rfl (ex_call (vs := #[.int .u32 (at_ : Int)]) rfl (by simp only [List.map_toArray, List.map_cons, List.map_nil, e10]) (by go_simp)) ((HN4.out w').mono fun e w3 hh => by
        obtain ⟨v, rfl, ho, hb⟩ := hh
        exact ⟨v, rfl, ho.rd, hb⟩)
    . intro a w' hF hB hd
      have e2 : a.eval (.tmp 2) = .slice va bl vc := hF 2 (by decide +kernel)
      exact doesC_val rfl (ex_move rfl e2) rfl
    . intro a w' hF hB hd
      have e9 : Rd w' (a.eval (.tmp 9)) [108, 101, 97, 102] := hd 2 (by decide +kernel)
      obtain ⟨a9, c9, q9, _⟩ := e9.shape
      rw [q9] at e9
      have f9 : a.tmps[9]?.getD undef = .slice a9 4 c9 := by rw [<- Array.getD_eq_getD_getElem?]; exact q9
      have e11 : Rd w' (a.eval (.tmp 11)) (be at_ 4) := hd 4 (by decide +kernel)
      obtain ⟨a11, c11, q11, _⟩ := e11.shape
      rw [q11] at e11
      rw [be_len] at q11 e11
      have f11 : a.tmps[11]?.getD undef = .slice a11 4 c11 := by rw [<- Array.getD_eq_getD_getElem?]; exact q11
      have q12 : a.eval (.tmp 12) = .slice va bl vc := hd 5 (by decide +kernel)
      have e12 : Rd w' (.slice va bl vc) b := HV.out.below (W1.out.on hB.below)
      have f12 : a.tmps[12]?.getD undef = .slice va bl vc := by rw [<- Array.getD_eq_getD_getElem?]; exact q12
      have R := Lib.hid (rds_three e9 e11 e12 rfl)
      clear q9 q11 q12 e9 e11 e12 hd
      refine doesC_wp hB.below.size rfl fun K hK => ?_
      unfold Oper.wp execOp
      go_simp
      exact hK _ _ R.out ((Below.refl _ _).alloc (Nat.le_refl _) _)
    . intro a w' hF hB hd
      have e7 : a.eval (.tmp 7) = .slice (some ⟨w.heap.size, 0, none⟩) 32 32 := hd 0 (by decide +kernel)
      have e13 : Rds w' (a.eval (.tmp 13)) [[108, 101, 97, 102], be at_ 4, b] := hd 6 (by decide +kernel)
      exact doesC_call hB.below.size rfl (ex_call (vs := #[.slice (some ⟨w.heap.size, 0, none⟩) 32 32, a.eval (.tmp 13)]) rfl (by simp only [List.map_toArray, List.map_cons, List.map_nil, e7]) (by go_simp)) ((HMA.out _ _ w' (W1.out.on hB.below) (rd_part (K1.out.below hB.below K1.out.lt) HKY.out HKC.out (by decide)) e13).mono fun e w3 hh => ⟨_, hh.1, rfl, hh.2⟩)
  . intro vs w4 hB hv
    have e7 : vs 7 = .agg (row8 M).toArray := hv 7 (by decide)
    simp only [List.take_succ_cons, List.take_zero, List.drop_succ_cons, List.drop_zero, putOps, Act.put, List.setIfInBounds_toArray, List.set_cons_zero, List.set_cons_succ, e7]
    have W4 := Lib.hid (W1.out.on hB.below)
    have R4 := Lib.hid (R1.out.below hB.below R1.out.lt)
    clear hv e7 hB
    go_wp2_with ((with_reducible show wpList _ _ _ (Oper.mk _ (.store _ (.tmp 6) (.tmp 14)) _ _ _ _ :: _) _ _); refine wpList_store_blk rfl 35 (.tmp 6) (.tmp 14) rfl (w.heap.size + 1) 0 (row8 M) rfl rfl 35 D0 R4.out (by rw [M32.out, hd0]; exact Nat.le_refl _) (by rw [M32.out]; exact infoS) (row8_one _) ?_; intro w5 b5 g5; rw [splice_all _ _ (by rw [M32.out, hd0])] at b5; have U5 := Lib.hid b5; have W5 := Lib.hid (W4.out.grown g5 W4.out.size (fun g hg => by have := Option.some.inj hg; omega)); clear b5 g5)
    exact bodyPost_ret (results_mid rfl _ _ (w.heap.size + 1) (row8 M) _ rfl U5.out.range Tryd.underlying35 rfl (by rw [M32.out]; exact infoS)) rfl ⟨rfl, W5.out⟩
end Go.Proofs.YtflnodkajhokhaaDoor
end
