/- A sector turned in its place, block by block between its tweaks, as the program does it: contract. Own work. -/
import Derived.Test.YtmidbmihadhgdaaDoorXtsLaid
import Derived.Test.YtmidbmihadhgdaaDoorAesProg
import Derived.Test.YtmidbmihadhgdaaDoorFillTo
import Derived.Test.YtmidbmihadhgdaaDoorTwiceCalls
import Derived.Test.YtmidbmihadhgdaaDoorFuncVal
import Derived.Test.YtmidbmihadhgdaaDoorXtsDo
namespace Go.Proofs.YtmidbmihadhgdaaDoor
open Go.ChangeShapes Go.WideShapes Go.ChangeAt Go.RowKit
open AM FM XM
namespace XM
/-- A block between two tweaks, turned by whatever turns it. -/
def bt (T : List Nat → List Nat) (t x : List Nat) : List Nat := ax (T (ax x t)) t
theorem splice_more (R : List Nat) (o : Nat) (A B : List Nat) (h : o + A.length ≤ R.length) : splice (splice R o A) (o + A.length) B = splice R o (A ++ B) := by
  unfold splice
  have hl : (R.take o ++ A).length = o + A.length := by rw [List.length_append, List.length_take]; omega
  have e1 : (R.take o ++ (A ++ R.drop (o + A.length))).take (o + A.length) = R.take o ++ A := by
    rw [← List.append_assoc]; exact List.take_left' hl
  have e2 : (R.take o ++ (A ++ R.drop (o + A.length))).drop (o + A.length + B.length) = R.drop (o + (A ++ B).length) := by
    rw [← List.append_assoc, List.drop_append, hl, List.drop_eq_nil_of_le (by rw [hl]; omega), List.nil_append, List.drop_drop, List.length_append]
    congr 1; omega
  rw [e1, e2, List.append_assoc, List.append_assoc]
/-- A row in which the first k blocks of the sector at o are turned. -/
def under (T : List Nat → List Nat) (t : Nat → List Nat) (R : List Nat) (o k : Nat) : List Nat := splice R o (bw (fun q => bt T (t q)) ((R.drop o).take 512) k)
theorem under_blocks (T : List Nat → List Nat) (t : Nat → List Nat) (b : List Nat) (k : Nat) : (bw (fun q => bt T (t q)) b k).length = 16 * k := bw_len k fun _ _ => row_len _
theorem under_zero (T : List Nat → List Nat) (t : Nat → List Nat) (R : List Nat) (o : Nat) : under T t R o 0 = R := by
  unfold under bw; exact splice_nil R o
theorem under_len (T : List Nat → List Nat) (t : Nat → List Nat) (R : List Nat) (o k : Nat) (h : o + 512 ≤ R.length) (hk : k ≤ 32) : (under T t R o k).length = R.length :=
  splice_len8 _ _ _ (by rw [under_blocks]; omega)
theorem under_step (T : List Nat → List Nat) (t : Nat → List Nat) (R : List Nat) (o k : Nat) (h : o + 512 ≤ R.length) (hk : k < 32) : splice (row8 (under T t R o k)) (o + 16 * k) (row8 (bt T (t k) (blk ((R.drop o).take 512) k))) = row8 (under T t R o (k + 1)) := by
  rw [← row8_splice8]
  have e := splice_more R o (bw (fun q => bt T (t q)) ((R.drop o).take 512) k) (bt T (t k) (blk ((R.drop o).take 512) k)) (by rw [under_blocks]; omega)
  rw [under_blocks] at e
  unfold under
  rw [e]; rfl
theorem under_part (T : List Nat → List Nat) (t : Nat → List Nat) (R : List Nat) (o k : Nat) (h : o + 512 ≤ R.length) (hk : k < 32) (j : Nat) (v : Value) (hv : (row8 (blk ((R.drop o).take 512) k))[j]? = some v) : (row8 (under T t R o k))[o + 16 * k + j]? = some v := by
  have hl : (blk ((R.drop o).take 512) k).length = 16 := blk_len _ _ (by rw [List.length_take, List.length_drop]; omega)
  by_cases hj : j < 16
  · rw [row8_val _ _ (by omega)] at hv
    rw [row8_val _ _ (by rw [under_len T t R o k h (by omega)]; omega), ← hv]
    congr 3
    unfold under
    rw [splice_get _ _ _ (by rw [under_blocks]; omega), under_blocks, if_neg (by omega), if_neg (by omega)]
    unfold blk
    rw [gb_take _ _ _ hj, gb_drop, gb_take _ _ _ (by omega), gb_drop, Nat.add_assoc]
  · rw [List.getElem?_eq_none (by rw [row8_len]; omega)] at hv; cases hv
end XM
/-- A block of another's own that is turned leaves all elder ones but the given one as they are. -/
theorem only_mix {a b c : World} {row : Option Nat} {t : Nat} (h : a.grownBy b row) (k : b.grownBy c (some t)) (ht : a.heap.size ≤ t) : a.grownBy c row :=
  ⟨k.os.trans h.os, k.tape.trans h.tape, k.output.trans h.output, Nat.le_trans h.size k.size, fun i hi hne => (k.block i (Nat.lt_of_lt_of_le hi h.size) (by intro q; have := Option.some.inj q; omega)).trans (h.block i hi hne)⟩
theorem TabX.grown {w w' : World} {b : Nat} (h : TabX w) (hb : w.grownBy w' (some b)) (hne : b ≠ 1) : TabX w' := h.keep (hb.block _ h.lt (by simp; omega))
theorem TabU.grown {w w' : World} {b : Nat} (h : TabU w) (hb : w.grownBy w' (some b)) (hne : b ≠ 2) : TabU w' := h.keep (hb.block _ h.lt (by simp; omega))
theorem put_nothing (a : Act) (v : Value) : a.put none v = a := rfl
/-- A slice's first sixteen bytes as an array's address. -/
theorem run_array_at (a : Addr) (n c : Nat) (h : 16 ≤ n) (w : World) : (Instr.arrayAt 35 (.slice (some a) n c)).run Tryd.prog w = .ok (.pointer (some a)) w := by
  have q : ¬ n < 16 := by omega
  simp [Instr.arrayAt, run_underlying Tryd.underlying35, q, go_sem]
set_option maxRecDepth 100000 in
set_option maxHeartbeats 4000000 in
theorem psector_any (T : List Nat → List Nat) (hTB : ∀ s, Bytes 16 s → Bytes 16 (T s)) (F : FuncId) (r : Value) (hF : ∀ a w, (callFunc F (#[r] ++ #[a])).run Tryd.prog w = .ok (.enter F (#[r] ++ #[a])) w)
    (x d : Nat) (p : Value) (L : List Nat) (n : Nat) (g o : Nat) (R : List Nat) (hR : ∀ k, gb R k < 256) (ho : o + 512 ≤ R.length) (w : World) (hg : Blk w g 5 (row8 R))
    (hx : Blk w x 51 [p, .pointer (some ⟨d, 0, none⟩)]) (hd : Cph w d L) (ht : TabX w) (hxg : x ≠ g) (hdg : d ≠ g) (htg : g ≠ 1)
    (hT : ∀ W, w.grownBy W (some g) → ∀ s, Bytes 16 s → Calls Tryd.prog F (#[r] ++ #[.agg (row8 s).toArray]) W fun e W' => e = .returned (.agg (row8 (T s)).toArray) ∧ Below W.heap.size W W') :
    Calls Tryd.prog 28 #[.pointer (some ⟨x, 0, none⟩), .int .u64 (n : Int), .slice (some ⟨g, o, none⟩) 512 512, .func (.func F) #[r] #[]] w fun e w' => e = .returned (.tuple #[]) ∧ Blk w' g 5 (row8 (under T (tweak (keys L) n) R o 32)) ∧ w.grownBy w' (some g) := by
  have hk2 : ∀ m, Bytes 16 (keys L m) := keys_bytes hd.1
  obtain ⟨b, hb⟩ : ∃ b, b = (R.drop o).take 512 := ⟨_, rfl⟩
  have hbl : b.length = 512 := by rw [hb, List.length_take, List.length_drop]; omega
  have hbb : ∀ k, gb b k < 256 := by rw [hb]; exact gb_take_byte _ _ fun k => by rw [gb_drop]; exact hR _
  obtain ⟨t, ht0⟩ : ∃ t, t = tweak (keys L) n := ⟨_, rfl⟩
  have htB : ∀ m, Bytes 16 (t m) := by rw [ht0]; exact tweak_bytes hk2 n
  have hnext : ∀ m, tw (t m) = t (m + 1) := by rw [ht0]; intro m; rfl
  obtain ⟨M, hM⟩ : ∃ M, M = num n := ⟨_, rfl⟩
  have hMB : Bytes 16 M := by rw [hM]; exact num_bytes n
  have hfirst : enc (rk (sched L)) M = t 0 := by rw [ht0, hM]; rfl
  obtain ⟨S, hS⟩ : ∃ S, S = under T t R o := ⟨_, rfl⟩
  have hS0 : S 0 = R := by rw [hS]; exact under_zero _ _ _ _
  have HSL := Lib.hid (fun k (h : k ≤ 32) => (show (S k).length = R.length by rw [hS]; exact under_len _ _ _ _ _ ho h))
  have HST := Lib.hid (fun k (h : k < 32) => (show splice (row8 (S k)) (o + 16 * k) (row8 (bt T (t k) (blk b k))) = row8 (S (k + 1)) by rw [hS, hb]; exact under_step _ _ _ _ _ ho h))
  have HPT := Lib.hid (fun k (h : k < 32) j v (hv : (row8 (blk b k))[j]? = some v) => (show (row8 (S k))[o + 16 * k + j]? = some v by rw [hS]; rw [hb] at hv; exact under_part _ _ _ _ _ ho h j v hv))
  rw [← ht0, ← hS]
  obtain ⟨D0, hD0⟩ : ∃ D0, D0 = row8 (List.replicate 16 0) := ⟨_, rfl⟩
  have hz : ∀ w, (zeroValue 35).run Tryd.prog w = .ok (.agg D0.toArray) w := by rw [hD0]; exact zero16
  have hd0 : D0.length = 16 := by rw [hD0, row8_len, List.length_replicate]
  have HLD := Lib.hid (fun W => laid_any n W)
  rw [← hM] at HLD
  have HEN := Lib.hid (fun W (h : Below w.heap.size w W) => cph_enc L d M hMB W (hd.below h) (ht.below h))
  rw [hfirst] at HEN
  have H2 := Lib.hid (fun m W => twice_any (t m) (htB m) W)
  have T16 := Lib.hid (fun m => (show (row8 (t m)).length = 16 by rw [row8_len]; exact (htB m).1))
  have HX := Lib.hid hx
  have HG := Lib.hid hg
  have HTB := Lib.hid htB
  have HTT := Lib.hid hTB
  have HBL := Lib.hid hbl
  have HBB := Lib.hid hbb
  have HNX := Lib.hid hnext
  have HTC := Lib.hid hT
  have HFE := Lib.hid hF
  have HS0 := Lib.hid hS0
  have HO := Lib.hid ho
  have HXG := Lib.hid hxg
  clear hx hg hd ht hR ho hxg hdg htg hT hTB hk2 hb hbl hbb ht0 htB hnext hM hMB hfirst hS hS0 hF hD0
  go_enter Tryd.func28, Tryd.ntmps28
  go_upto_region 0 with (fail)
  refine wp_region_g (by kernel_rfl) 8 (by decide) (by kernel_rfl) (by kernel_rfl) (by kernel_rfl) w.heap.size (Nat.le_refl _) [.val (.pointer (some ⟨x, 0, none⟩)), .val (.pointer (some ⟨x, 0, none⟩)), .val (.pointer (some ⟨x, 1, none⟩)), .val (.pointer (some ⟨d, 0, none⟩)), .val (.int .u64 (n : Int)), .val (.agg (row8 M).toArray), .val (.agg (row8 (t 0)).toArray), .blk 35 D0] (fun _ => 9) ?_ ?_
  · refine ⟨?_, ?_, ?_, ?_, ?_, ?_, ?_, ?_, trivial⟩
    · intro a w' hF hB hd
      have e0 : a.eval (.tmp 0) = .pointer (some ⟨x, 0, none⟩) := hF 0 (by decide +kernel)
      exact doesG_val rfl (ex_move rfl e0) rfl rfl
    · intro a w' hF hB hd
      have e11 : a.eval (.tmp 11) = .pointer (some ⟨x, 0, none⟩) := hd 0 (by decide +kernel) (.inr (by decide))
      exact doesG_val rfl (v := .pointer (some ⟨x, 0, none⟩)) (by unfold execOp; simp only [e11]; go_simp) rfl rfl
    · intro a w' hF hB hd
      have e12 : a.eval (.tmp 12) = .pointer (some ⟨x, 0, none⟩) := hd 1 (by decide +kernel) (.inr (by decide))
      exact doesG_val rfl (v := .pointer (some ⟨x, 1, none⟩)) (by unfold execOp; simp only [e12]; go_simp) rfl rfl
    · intro a w' hF hB hd
      have e13 : a.eval (.tmp 13) = .pointer (some ⟨x, 1, none⟩) := hd 2 (by decide +kernel) (.inr (by decide))
      have c := (HX.out.below hB HX.out.lt).cell 1 _ rfl
      exact doesG_val rfl (v := .pointer (some ⟨d, 0, none⟩)) (by unfold execOp; simp only [e13]; go_simp) rfl rfl
    · intro a w' hF hB hd
      have e1 : a.eval (.tmp 1) = .int .u64 (n : Int) := hF 1 (by decide +kernel)
      exact doesG_val rfl (ex_move rfl e1) rfl rfl
    · intro a w' hF hB hd
      have e15 : a.eval (.tmp 15) = .int .u64 (n : Int) := hd 4 (by decide +kernel) (.inr (by decide))
      exact doesG_call rfl (ex_call (vs := #[.int .u64 (n : Int)]) rfl (by simp only [List.map_toArray, List.map_cons, List.map_nil, e15]) (by go_simp)) rfl ((HLD.out w').mono fun e w2 hh => by
        obtain ⟨rfl, hb⟩ := hh
        exact ⟨_, rfl, rfl, hb⟩)
    · intro a w' hF hB hd
      have e14 : a.eval (.tmp 14) = .pointer (some ⟨d, 0, none⟩) := hd 3 (by decide +kernel) (.inr (by decide))
      have e16 : a.eval (.tmp 16) = .agg (row8 M).toArray := hd 5 (by decide +kernel) (.inr (by decide))
      exact doesG_call rfl (ex_call (vs := #[.pointer (some ⟨d, 0, none⟩), .agg (row8 M).toArray]) rfl (by simp only [List.map_toArray, List.map_cons, List.map_nil, e14, e16]) (by go_simp)) rfl ((HEN.out w' hB).mono fun e w2 hh => by
        obtain ⟨rfl, hb⟩ := hh
        exact ⟨_, rfl, rfl, hb⟩)
    · intro a w' hF hB hd
      exact doesG_alloc rfl 35 D0 rfl hz hB.size rfl
  · intro vs w1 hB hv hap
    have e17 : vs 6 = .agg (row8 (t 0)).toArray := hv 6 (by decide) (by decide)
    obtain ⟨tb, e8, hbt, htb⟩ : ∃ c, vs 7 = .pointer (some ⟨c, 0, none⟩) ∧ w.heap.size ≤ c ∧ Blk w1 c 35 D0 := hv 7 (by decide) (by decide)
    simp only [List.take_succ_cons, List.take_zero, List.drop_succ_cons, List.drop_zero, putOps, Act.put, List.setIfInBounds_toArray, List.set_cons_zero, List.set_cons_succ, e17, e8]
    have N1 := Lib.hid htb
    have R1 := Lib.hid (HG.out.below hB HG.out.lt)
    have G1 := Lib.hid (grown_of_below hB (some g))
    have HBT := Lib.hid hbt
    have hgt : g ≠ tb := by have := HG.out.lt; omega
    clear hv hap htb hB e17 e8 hbt
    generalize vs 0 = v0 at *
    generalize vs 1 = v1 at *
    generalize vs 2 = v2 at *
    generalize vs 3 = v3 at *
    generalize vs 4 = v4 at *
    generalize vs 5 = v5 at *
    go_wp2_with (refine wpList_store_blk rfl 35 (.tmp 8) (.tmp 17) rfl tb 0 (row8 (t 0)) rfl rfl 35 D0 N1.out (by rw [T16.out, hd0]; exact Nat.le_refl _) (by rw [T16.out]; exact info16) (row8_one _) ?_; intro w2 b2 g2; rw [splice_all _ _ (by rw [T16.out, hd0])] at b2; have N2 := Lib.hid b2; have R2 := Lib.hid (R1.out.grown g2 (fun q => by have e : g = tb := Option.some.inj q; omega)); have G2 := Lib.hid (only_mix G1.out g2 HBT.out); clear b2 g2)
    clear N1 R1 G1 HEN HX HG HLD
    go_loopw [9] (fun i wr => ∃ k : Nat, k ≤ 32 ∧ i = .int .i64 (16 * (k : Int)) ∧ Blk wr g 5 (row8 (S k)) ∧ Blk wr tb 35 (row8 (t k)) ∧ w.grownBy wr (some g)) (fun i _ => 512 - (intOf i).toNat)
    case atStart => exact ⟨0, by omega, rfl, by rw [HS0.out]; exact R2.out, N2.out, G2.out⟩
    case round =>
      clear R2 N2 G2
      obtain ⟨k, hk, rfl, r0, n0, g0⟩ := hrel
      by_cases hlt : k < 32
      · have hltI : 16 * (k : Int) < 512 := by omega
        obtain ⟨D, hD⟩ : ∃ D, D = blk b k := ⟨_, rfl⟩
        have bD : Bytes 16 D := by rw [hD]; exact blk_bytes HBB.out k (by rw [HBL.out]; omega)
        have D16 := Lib.hid (show (row8 D).length = 16 by rw [row8_len]; exact bD.1)
        have hpt := HPT.out k hlt
        have hst := HST.out k hlt
        rw [← hD] at hpt hst
        have hrg := range_part r0 (o + 16 * k) (row8 D) hpt
        have HRG := Lib.hid hrg
        have HSTK := Lib.hid hst
        have HBD := Lib.hid bD
        have R0 := Lib.hid r0
        have N0 := Lib.hid n0
        have G0 := Lib.hid g0
        have q0 : (0 : Int) ≤ 16 * (k : Int) := by omega
        have q1 : 16 * (k : Int) ≤ 512 := by omega
        have q2 : (16 * (k : Int)).toNat = 16 * k := by omega
        have q3 : (512 : Nat) ≠ 16 * k := by omega
        have q4 := run_array_at ⟨g, o + 16 * k, none⟩ (512 - 16 * k) (512 - 16 * k) (by omega)
        clear hD bD hpt hst hrg r0 n0 g0
        go_upto_region 5 with (first
          | (refine wpList_load_mid rfl 35 (.tmp 27) rfl g (o + 16 * k) rfl (row8 D) _ HRG.out Tryd.underlying35 rfl (by rw [D16.out]; exact info16) ?_)
          | (refine wpList_store_blk rfl 35 (.tmp 10) (.tmp 28) rfl wr.heap.size 0 (row8 D) rfl rfl 35 D0 (Blk.new wr 35 D0 _ rfl) (by rw [D16.out, hd0]; exact Nat.le_refl _) (by rw [D16.out]; exact info16) (row8_one _) ?_; intro w5 b5 g5; rw [splice_all _ _ (by rw [D16.out, hd0])] at b5; have P5 := Lib.hid b5; have hbw : Below wr.heap.size wr w5 := alloc_turn (Below.refl _ _) g5; have R5 := Lib.hid (R0.out.below hbw R0.out.lt); have N5 := Lib.hid (N0.out.below hbw N0.out.lt); have G5 := Lib.hid (only_trans G0.out (grown_of_below hbw (some g))); clear b5 g5 hbw))
        simp only [put_nothing]
        obtain ⟨pb, hpb⟩ : ∃ c, c = wr.heap.size := ⟨_, rfl⟩
        have hpg : g ≠ pb := by rw [hpb]; have := R0.out.lt; omega
        have hpt : tb ≠ pb := by rw [hpb]; have := N0.out.lt; omega
        have hpw : w.heap.size ≤ pb := by rw [hpb]; exact G0.out.size
        rw [← hpb] at P5 ⊢
        obtain ⟨E, hE⟩ : ∃ E, E = t k := ⟨_, rfl⟩
        have bE : Bytes 16 E := by rw [hE]; exact HTB.out k
        obtain ⟨X, hX⟩ : ∃ X, X = ax D E := ⟨_, rfl⟩
        have bX : Bytes 16 X := by rw [hX]; exact ax_bytes HBD.out bE
        obtain ⟨Y, hY⟩ : ∃ Y, Y = T X := ⟨_, rfl⟩
        have bY : Bytes 16 Y := by rw [hY]; exact HTT.out X bX
        obtain ⟨Z, hZ⟩ : ∃ Z, Z = ax Y E := ⟨_, rfl⟩
        have bZ : Bytes 16 Z := by rw [hZ]; exact ax_bytes bY bE
        have hst : splice (row8 (S k)) (o + 16 * k) (row8 Z) = row8 (S (k + 1)) := by rw [hZ, hY, hX, hE]; exact HSTK.out
        have htw := fun W => H2.out k W
        rw [HNX.out k, ← hE] at htw
        have HTW := Lib.hid htw
        have HSTZ := Lib.hid hst
        have H1 := Lib.hid (fun W => tweaked_any D E HBD.out bE W)
        rw [← hX] at H1
        have H3 := Lib.hid (fun W => tweaked_any Y E bY bE W)
        rw [← hZ] at H3
        have HTX := Lib.hid (fun W (h : w.grownBy W (some g)) => HTC.out W h X bX)
        rw [← hY] at HTX
        rw [← hE] at N5
        have E16 := Lib.hid (show (row8 E).length = 16 by rw [row8_len]; exact bE.1)
        have Z16 := Lib.hid (show (row8 Z).length = 16 by rw [row8_len]; exact bZ.1)
        have HZB := Lib.hid bZ
        have HFY := Lib.hid (HFE.out (.agg (row8 X).toArray))
        have U16 := Lib.hid (T16.out (k + 1))
        obtain ⟨V, hV⟩ : ∃ V, V = t (k + 1) := ⟨_, rfl⟩
        rw [← hV] at HTW U16
        have HV := Lib.hid hV
        clear bE hX bX hY bY hZ bZ hst htw hE hV R0 N0 G0 hpb
        refine wp_region_g (by kernel_rfl) 7 (by decide) (by kernel_rfl) (by kernel_rfl) (by kernel_rfl) w5.heap.size (Nat.le_refl _) [.val (.func (.func F) #[r] #[]), .val (.agg (row8 D).toArray), .val (.agg (row8 E).toArray), .val (.agg (row8 X).toArray), .val (.agg (row8 Y).toArray), .val (.agg (row8 E).toArray), .val (.agg (row8 Z).toArray)] (fun _ => 8) ?_ ?_
        · refine ⟨?_, ?_, ?_, ?_, ?_, ?_, ?_, trivial⟩
          · intro a w' hF hB hd
            have e3 : a.eval (.tmp 3) = .func (.func F) #[r] #[] := hF 3 (by decide +kernel)
            exact doesG_val rfl (ex_move rfl e3) rfl rfl
          · intro a w' hF hB hd
            have e10 : a.eval (.tmp 10) = .pointer (some ⟨pb, 0, none⟩) := hF 10 (by decide +kernel)
            exact doesG_wp rfl rfl fun K' hK' => wp_load_mid 35 (.tmp 10) rfl pb 0 e10 (row8 D) _ (P5.out.below hB P5.out.lt).range Tryd.underlying35 rfl (by rw [D16.out]; exact info16) (hK' _ _ rfl (Below.refl _ _))
          · intro a w' hF hB hd
            have e8 : a.eval (.tmp 8) = .pointer (some ⟨tb, 0, none⟩) := hF 8 (by decide +kernel)
            exact doesG_wp rfl rfl fun K' hK' => wp_load_mid 35 (.tmp 8) rfl tb 0 e8 (row8 E) _ (N5.out.below hB N5.out.lt).range Tryd.underlying35 rfl (by rw [E16.out]; exact info16) (hK' _ _ rfl (Below.refl _ _))
          · intro a w' hF hB hd
            have e30 : a.eval (.tmp 30) = .agg (row8 D).toArray := hd 1 (by decide +kernel) (.inr (by decide))
            have e31 : a.eval (.tmp 31) = .agg (row8 E).toArray := hd 2 (by decide +kernel) (.inr (by decide))
            exact doesG_call rfl (ex_call (vs := #[.agg (row8 D).toArray, .agg (row8 E).toArray]) rfl (by simp only [List.map_toArray, List.map_cons, List.map_nil, e30, e31]) (by go_simp)) rfl ((H1.out w').mono fun e w2 hh => by
              obtain ⟨rfl, hb⟩ := hh
              exact ⟨_, rfl, rfl, hb⟩)
          · intro a w' hF hB hd
            have e29 : a.eval (.tmp 29) = .func (.func F) #[r] #[] := hd 0 (by decide +kernel) (.inr (by decide))
            have e32 : a.eval (.tmp 32) = .agg (row8 X).toArray := hd 3 (by decide +kernel) (.inr (by decide))
            exact doesG_call rfl (ex_call_fn (vs := #[.agg (row8 X).toArray]) rfl e29 (by simp only [List.map_toArray, List.map_cons, List.map_nil, e32]) (HFY.out w')) rfl ((HTX.out w' (only_trans G5.out (grown_of_below hB (some g)))).mono fun e w2 hh => by
              obtain ⟨rfl, hb⟩ := hh
              exact ⟨_, rfl, rfl, hb⟩)
          · intro a w' hF hB hd
            have e8 : a.eval (.tmp 8) = .pointer (some ⟨tb, 0, none⟩) := hF 8 (by decide +kernel)
            exact doesG_wp rfl rfl fun K' hK' => wp_load_mid 35 (.tmp 8) rfl tb 0 e8 (row8 E) _ (N5.out.below hB N5.out.lt).range Tryd.underlying35 rfl (by rw [E16.out]; exact info16) (hK' _ _ rfl (Below.refl _ _))
          · intro a w' hF hB hd
            have e33 : a.eval (.tmp 33) = .agg (row8 Y).toArray := hd 4 (by decide +kernel) (.inr (by decide))
            have e34 : a.eval (.tmp 34) = .agg (row8 E).toArray := hd 5 (by decide +kernel) (.inr (by decide))
            exact doesG_call rfl (ex_call (vs := #[.agg (row8 Y).toArray, .agg (row8 E).toArray]) rfl (by simp only [List.map_toArray, List.map_cons, List.map_nil, e33, e34]) (by go_simp)) rfl ((H3.out w').mono fun e w2 hh => by
              obtain ⟨rfl, hb⟩ := hh
              exact ⟨_, rfl, rfl, hb⟩)
        · intro vs w6 hB hv hap
          have e35 : vs 6 = .agg (row8 Z).toArray := hv 6 (by decide) (by decide)
          simp only [List.take_succ_cons, List.take_zero, List.drop_succ_cons, List.drop_zero, putOps, Act.put, List.setIfInBounds_toArray, List.set_cons_zero, List.set_cons_succ, e35]
          have P6 := Lib.hid (P5.out.below hB P5.out.lt)
          have R6 := Lib.hid (R5.out.below hB R5.out.lt)
          have N6 := Lib.hid (N5.out.below hB N5.out.lt)
          have G6 := Lib.hid (only_trans G5.out (grown_of_below hB (some g)))
          clear hv hap e35 hB P5 R5 N5 G5 H1 H3 HTX HFY
          generalize vs 0 = y0 at *
          generalize vs 1 = y1 at *
          generalize vs 2 = y2 at *
          generalize vs 3 = y3 at *
          generalize vs 4 = y4 at *
          generalize vs 5 = y5 at *
          go_upto_region 6 with (refine wpList_store_blk rfl 35 (.tmp 10) (.tmp 35) rfl pb 0 (row8 Z) rfl rfl 35 (row8 D) P6.out (by rw [Z16.out, D16.out]; exact Nat.le_refl _) (by rw [Z16.out]; exact info16) (row8_one _) ?_; intro w7 b7 g7; rw [splice_all _ _ (by rw [Z16.out, D16.out])] at b7; have P7 := Lib.hid b7; have R7 := Lib.hid (R6.out.grown g7 (fun q => by have e : g = pb := Option.some.inj q; omega)); have N7 := Lib.hid (N6.out.grown g7 (fun q => by have e : tb = pb := Option.some.inj q; omega)); have G7 := Lib.hid (only_mix G6.out g7 hpw); clear b7 g7)
          simp only [put_nothing]
          have r7 := blk_rd_at P7.out HZB.out.2 0 16 16 (by rw [HZB.out.1]; omega) (Nat.le_refl _) (by rw [HZB.out.1]; omega)
          rw [List.drop_zero, List.take_of_length_le (by rw [HZB.out.1]; omega)] at r7
          have Q7 := Lib.hid r7
          clear r7 P6 R6 N6 G6
          refine wp_region_g (by kernel_rfl) 4 (by decide) (by kernel_rfl) (by kernel_rfl) (by kernel_rfl) w7.heap.size (Nat.le_refl _) [.val (.slice (some ⟨g, o, none⟩) 512 512), .val (.int .i64 (16 * (k : Int))), .val (.slice (some ⟨g, o + 16 * k, none⟩) (512 - 16 * k) (512 - 16 * k)), .val (.slice (some ⟨pb, 0, none⟩) 16 16)] (fun _ => 5) ?_ ?_
          · refine ⟨?_, ?_, ?_, ?_, trivial⟩
            · intro a w' hF hB hd
              have e2 : a.eval (.tmp 2) = .slice (some ⟨g, o, none⟩) 512 512 := hF 2 (by decide +kernel)
              exact doesG_val rfl (ex_move rfl e2) rfl rfl
            · intro a w' hF hB hd
              have e9 : a.eval (.tmp 9) = .int .i64 (16 * (k : Int)) := hF 9 (by decide +kernel)
              exact doesG_val rfl (ex_move rfl e9) rfl rfl
            · intro a w' hF hB hd
              have e36 : a.eval (.tmp 36) = .slice (some ⟨g, o, none⟩) 512 512 := hd 0 (by decide +kernel) (.inr (by decide))
              have e37 : a.eval (.tmp 37) = .int .i64 (16 * (k : Int)) := hd 1 (by decide +kernel) (.inr (by decide))
              exact doesG_val rfl (v := .slice (some ⟨g, o + 16 * k, none⟩) (512 - 16 * k) (512 - 16 * k)) (by unfold execOp; simp only [Option.map_some, Option.map_none, e36, e37]; go_simp) rfl rfl
            · intro a w' hF hB hd
              have e10 : a.eval (.tmp 10) = .pointer (some ⟨pb, 0, none⟩) := hF 10 (by decide +kernel)
              exact doesG_val rfl (v := .slice (some ⟨pb, 0, none⟩) 16 16) (by unfold execOp; simp only [e10]; go_simp) rfl rfl
          · intro vs w8 hB hv hap
            have e38 : vs 2 = .slice (some ⟨g, o + 16 * k, none⟩) (512 - 16 * k) (512 - 16 * k) := hv 2 (by decide) (by decide)
            have e39 : vs 3 = .slice (some ⟨pb, 0, none⟩) 16 16 := hv 3 (by decide) (by decide)
            simp only [List.take_succ_cons, List.take_zero, List.drop_succ_cons, List.drop_zero, putOps, Act.put, List.setIfInBounds_toArray, List.set_cons_zero, List.set_cons_succ, e38, e39]
            have R8 := Lib.hid (R7.out.below hB R7.out.lt)
            have N8 := Lib.hid (N7.out.below hB N7.out.lt)
            have Q8 := Lib.hid (Q7.out.below hB)
            have G8 := Lib.hid (only_trans G7.out (grown_of_below hB (some g)))
            have HMN := Lib.hid (show 16 = min Z.length (512 - 16 * k) by rw [HZB.out.1]; omega)
            have HLE := Lib.hid (show o + 16 * k + 16 ≤ (row8 (S k)).length by rw [row8_len, HSL.out k hk]; have := HO.out; omega)
            have HTK := Lib.hid (show Z.take 16 = Z from List.take_of_length_le (by rw [HZB.out.1]; omega))
            clear hv hap e38 e39 hB P7 R7 N7 Q7 G7
            generalize vs 0 = z0 at *
            generalize vs 1 = z1 at *
            go_wp2_with (first
              | ((with_reducible show wpList _ _ _ _ _ _); refine wpList_copy_blk rfl (.tmp 38) (.tmp 39) 26 26 rfl Tryd.underlying26 g (o + 16 * k) (512 - 16 * k) (512 - 16 * k) 5 (row8 (S k)) R8.out (some ⟨g, o + 16 * k, none⟩) rfl (.slice (some ⟨pb, 0, none⟩) 16 16) rfl Z Q8.out 16 HMN.out (fun _ => rfl) HLE.out ?_; intro w9 r9 g9; rw [HTK.out, HSTZ.out] at r9; have R9 := Lib.hid r9; have N9 := Lib.hid (N8.out.grown g9 (fun q => by have e : tb = g := Option.some.inj q; omega)); have G9 := Lib.hid (only_trans G8.out g9); clear r9 g9)
              | (refine wpList_load_mid rfl 35 (.tmp 8) rfl tb 0 rfl (row8 E) _ N9.out.range Tryd.underlying35 rfl (by rw [E16.out]; exact info16) ?_)
              | (go_at_call 18; (with_reducible refine (HTW.out _).mono ?_); rintro e w10 ⟨rfl, b10⟩; have R10 := Lib.hid (R9.out.below b10 R9.out.lt); have N10 := Lib.hid (N9.out.below b10 N9.out.lt); have G10 := Lib.hid (only_trans G9.out (grown_of_below b10 (some g))); clear b10)
              | (refine wpList_store_blk rfl 35 (.tmp 8) (.tmp 42) rfl tb 0 (row8 V) rfl rfl 35 (row8 E) N10.out (by rw [U16.out, E16.out]; exact Nat.le_refl _) (by rw [U16.out]; exact info16) (row8_one _) ?_; intro w11 b11 g11; rw [splice_all _ _ (by rw [U16.out, E16.out]), HV.out] at b11; have N11 := Lib.hid b11; have R11 := Lib.hid (R10.out.grown g11 (fun q => by have e : g = tb := Option.some.inj q; omega)); have G11 := Lib.hid (only_mix G10.out g11 HBT.out); clear b11 g11))
            exact ⟨⟨k + 1, by omega, by go_num, R11.out, N11.out, G11.out⟩, by simp [intOf]; omega⟩
      · have hltI : ¬ 16 * (k : Int) < 512 := by omega
        obtain rfl : k = 32 := by omega
        have R1 := Lib.hid r0
        have G1 := Lib.hid g0
        clear r0 n0 g0
        go_wp2_with fail
        go_end0
        exact ⟨rfl, R1.out, G1.out⟩
end Go.Proofs.YtmidbmihadhgdaaDoor
