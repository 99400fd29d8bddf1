/- HmacCuts: for any key and any bytes cut in two anywhere: handed on or written, they have one sum with the key; and the law's closed case holds. No condition but that the program's table holds its constants when the call begins. -/
import Derived.Test.YtllhljhbnopafaaDoorRows
import Derived.Test.YtllhljhbnopafaaDoorHmacAwake
import Derived.Test.YtllhljhbnopafaaDoorDoorP
import Derived.Test.YtllhljhbnopafaaDoorTie
import Derived.Test.YtllhljhbnopafaaDoorCards
import Derived.SevenTiedAt
import Derived.Test.YtllhljhbnopafaaDoorArgs
import Derived.WalkKit
import Derived.ProofKit
import Derived.OpenShut
import Derived.SizedLaws
import Derived.Carry
import Derived.Deep.DeepHandedRow
import Derived.Deep.DeepWitnessRowRef
namespace Go.Proofs.YtllhljhbnopafaaDoor.hmacCuts
open Go.ChangeShapes Go.WideShapes Go.ChangeAt Go.RowKit

theorem own : ownKnob Tryd.prog.godebug = none := by kernel_rfl
set_option linter.unusedVariables false in
set_option maxHeartbeats 4000000 in
set_option maxRecDepth 100000 in
theorem walk (w : World) (ht : TabP w) (v0 : Value) (l0 : List Nat) (h0 : Rd w v0 l0) (v1 : Value) (l1 : List Nat) (h1 : Rd w v1 l1) (a2 : Int) (w2 : (Lit.int .u16 a2).wf = true) :
    Calls Tryd.prog 7 #[v0, v1, .int .u16 a2] w fun e w' => e = .returned (.bool true) ∧ Below w.heap.size w w' := by
  obtain ⟨n2, hn2, rfl⟩ : ∃ n : Nat, n < 65536 ∧ a2 = (n : Int) := by
    have k : 0 ≤ a2 ∧ a2 ≤ 65535 := by simpa [Lit.wf, IntKind.min, IntKind.max, IntKind.signed, IntKind.bits] using w2
    exact ⟨a2.toNat, by omega, by omega⟩
  obtain ⟨a0, c0, rfl, hc0⟩ := h0.shape
  obtain ⟨a1, c1, rfl, hc1⟩ := h1.shape
  have q1 := h1.fits
  obtain ⟨k, hk⟩ : ∃ k, k = n2 % (l1.length + 1) := ⟨_, rfl⟩
  have hkl : k ≤ l1.length := by rw [hk]; have := Nat.mod_lt n2 (show 0 < l1.length + 1 by omega); omega
  have hkI : (n2 : Int) % ((l1.length : Int) + 1) = (k : Int) := by rw [hk]; simp
  obtain ⟨SK, hSK⟩ : ∃ S, S = SM.mac l0 (l1.take k) := ⟨_, rfl⟩
  obtain ⟨SL, hSL⟩ : ∃ S, S = SM.mac l0 l1 := ⟨_, rfl⟩
  have bk : Bytes 32 SK := by rw [hSK]; exact mac_bytes _ _
  have bl : Bytes 32 SL := by rw [hSL]; exact mac_bytes _ _
  have hek := fun w => run_eql_sum bk bk w
  have hel := fun w => run_eql_sum bl bl w
  simp only [decide_true] at hek hel
  have K32 := Lib.hid (show (row8 SK).length = 32 by rw [row8_len]; exact bk.1)
  have HSK := Lib.hid hSK
  have HSL := Lib.hid hSL
  have HK := Lib.hid h0
  have HV := Lib.hid h1
  have HT := Lib.hid ht
  have HKK := Lib.hid ht.lt
  have x1 := h1.take k hkl
  have x2 := h1.drop k hkl
  have HTK := Lib.hid (show (l1.take k).length = k by rw [List.length_take]; omega)
  have HTD := Lib.hid (show (l1.drop k).length = l1.length - k from List.length_drop)
  have HAP := Lib.hid (show l1.take k ++ l1.drop k = l1 from List.take_append_drop k l1)
  have N0 := Lib.hid (mac_new l0 _ w h0 ht)
  have HOV := Lib.hid (fun (hl : 0 < l1.length) (g : Nat) (hg : w.heap.size ≤ g) => h1.old hl g hg)
  have HOA := Lib.hid (fun (hl : 0 < (l1.take k).length) (g : Nat) (hg : w.heap.size ≤ g) => x1.old hl g hg)
  obtain ⟨xa, hxa⟩ : ∃ xa, xa = if c1 = k then a1 else a1.map (·.add k) := ⟨_, rfl⟩
  rw [← hxa] at x2
  have HOB := Lib.hid (fun (hl : 0 < (l1.drop k).length) (g : Nat) (hg : w.heap.size ≤ g) => x2.old hl g hg)
  have R1 := Lib.hid x1
  have R2 := Lib.hid x2
  have HXA := Lib.hid hxa
  clear h0 h1 ht hSK hSL bk bl x1 x2 hk hxa
  have p2 : (k : Int) ≤ (l1.length : Int) := by omega
  have p3 : (k : Int) ≤ (c1 : Int) := by omega
  obtain ⟨D0, hD0⟩ : ∃ C0, C0 = row8 (List.replicate 32 0) := ⟨_, rfl⟩
  have hzs : ∀ w, (zeroValue 26).run Tryd.prog w = .ok (.agg D0.toArray) w := by rw [hD0]; exact zeroSum
  have hd0 : D0.length = 32 := by rw [hD0, row8_len, List.length_replicate]
  clear hD0
  go_enter Tryd.func7, Tryd.ntmps7
  go_upto_region 2 with (fail)
  rw [hkI]
  clear hkI
  go_upto_region 7 with (first
    | (go_at_call 13; (with_reducible refine N0.out.mono ?_); rintro e wa ⟨m, h, o, hm, hh, ho, rfl, m1, b1⟩; have HM := Lib.hid hm; have HH := Lib.hid hh; have HO := Lib.hid ho; have B1 := Lib.hid b1; have W1 := Lib.hid (mac_write m h o l0 [] (l1.take k) (.slice a1 k c1) wa (R1.out.below b1) (fun hl => HOA.out hl h hh) m1 (HT.out.below b1) (by have := HKK.out; omega) (by rw [HTK.out]; simp; omega)); clear m1 b1 hm hh ho)
    | (go_at_call 14; (with_reducible refine W1.out.mono ?_); rintro e wb ⟨rfl, m2, g2⟩; rw [List.nil_append] at m2; have B2 := Lib.hid (B1.out.grown g2 B1.out.size (fun j hj => by have e : h = j := Option.some.inj hj; have := HH.out; omega)); have M2 := Lib.hid m2; have S2 := Lib.hid (mac_sum m h o l0 (l1.take k) wb m2 (HT.out.below B2.out) (by rw [HTK.out]; omega)); rw [← HSK.out] at S2; clear m2 g2)
    | (go_at_call 15; (with_reducible refine S2.out.mono ?_); rintro e wc ⟨rfl, b3⟩; have B3 := Lib.hid (B2.out.on b3); have M3 := Lib.hid (M2.out.below b3); clear b3)
    | (refine wpList_store_blk rfl 26 (.tmp 9) (.tmp 26) rfl wc.heap.size 0 (row8 SK) rfl rfl 26 D0 (Blk.new wc 26 D0 _ rfl) (by rw [K32.out, hd0]; exact Nat.le_refl _) (by rw [K32.out]; exact infoS) (row8_one _) ?_; intro we b5 g5; rw [splice_all _ _ (by rw [K32.out, hd0])] at b5; have N5 := Lib.hid b5; have HMB := Lib.hid (show h ≠ wc.heap.size by have := M3.out.inn.lt; omega); have m5 := M3.out.alloc (.cells D0.toArray 26); have M5 := Lib.hid (Mc.mk (m5.blk.grown g5 (fun q => by have e : m = wc.heap.size := Option.some.inj q; have := M3.out.blk.lt; omega)) (m5.inn.grown g5 (fun q => by have e : h = wc.heap.size := Option.some.inj q; have := M3.out.inn.lt; omega)) (m5.out.grown g5 (fun q => by have e : o = wc.heap.size := Option.some.inj q; have := M3.out.out.lt; omega)) m5.ho m5.hm m5.om); have B5 := Lib.hid (own_turn B3.out g5); clear b5 g5 m5))
  simp only [put_none]
  have W6 := Lib.hid (mac_write m h o l0 (l1.take k) (l1.drop k) (.slice xa (l1.length - k) (c1 - k)) we (R2.out.below B5.out) (fun hl => HOB.out hl h HH.out) M5.out (HT.out.below B5.out) (by have := HKK.out; have := HH.out; omega) (by rw [HTK.out, HTD.out]; omega))
  obtain ⟨mb, hmb⟩ : ∃ mb, mb = wc.heap.size := ⟨_, rfl⟩
  rw [← hmb] at N5 HMB ⊢
  clear M3 M2 B3 B2 B1 S2 W1 hmb hzs hd0 HM
  go_upto_region 8 with (go_at_call 14; rw [← HXA.out]; (with_reducible refine W6.out.mono ?_); rintro e w6 ⟨rfl, m6, g6⟩; rw [HAP.out] at m6; have B6 := Lib.hid (B5.out.grown g6 B5.out.size (fun j hj => by have e : h = j := Option.some.inj hj; have := HH.out; omega)); have M6 := Lib.hid m6; have HM := Lib.hid (N5.out.grown g6 (fun q => HMB.out (Option.some.inj q).symm)); clear m6 g6)
  have HT8 := Lib.hid (HT.out.below B6.out)
  have HK8 := Lib.hid (HK.out.below B6.out)
  have HV8 := Lib.hid (HV.out.below B6.out)
  have HX1 := Lib.hid (R1.out.below B6.out)
  have HX2 := Lib.hid (R2.out.below B6.out)
  have HSZ := Lib.hid B6.out.size
  have HSU := Lib.hid (fun W (hW : Below w6.heap.size w6 W) => mac_sum m h o l0 l1 W (M6.out.below hW) (HT8.out.below hW) (by omega))
  rw [← HSL.out] at HSU
  clear W6 N5 M5 B5 HMB R1 R2
  refine wp_region_g (by kernel_rfl) 37 (by decide) (by kernel_rfl) (by kernel_rfl) (by kernel_rfl) (w6.heap.size) (Nat.le_refl _) [.val (.agg (row8 SK).toArray), .val (.slice a0 l0.length c0), .val (.slice a1 l1.length c1), .val (.int .i64 (k : Int)), .val (.slice a1 k c1), .rds ([l1.take k]), .val (.agg (row8 SK).toArray), .val (.bool true), .val (.bool true), .val (.pointer (some ⟨m, 0, none⟩)), .val (.agg (row8 SL).toArray), .val (.slice a0 l0.length c0), .val (.slice a1 l1.length c1), .rds ([l1]), .val (.agg (row8 SL).toArray), .val (.bool true), .val (.bool true), .val (.bool true), .val (.slice a0 l0.length c0), .val (.slice a1 l1.length c1), .val (.int .i64 (k : Int)), .val (.slice a1 k c1), .val (.slice a1 l1.length c1), .val (.int .i64 (k : Int)), .val (.slice xa (l1.length - k) (c1 - k)), .rds ([l1.take k, l1.drop k]), .val (.agg (row8 SL).toArray), .val (.slice a0 l0.length c0), .val (.slice a1 l1.length c1), .rds ([l1]), .val (.agg (row8 SL).toArray), .val (.bool true), .val (.bool true), .val (.bool true), .val (.bool true), .val (.bool true), .val (.bool true)] (fun _ => 37) ?_ ?_
  · refine ⟨?_, ?_, ?_, ?_, ?_, ?_, ?_, ?_, ?_, ?_, ?_, ?_, ?_, ?_, ?_, ?_, ?_, ?_, ?_, ?_, ?_, ?_, ?_, ?_, ?_, ?_, ?_, ?_, ?_, ?_, ?_, ?_, ?_, ?_, ?_, ?_, ?_, trivial⟩
    · intro a w' hF hB hd
      have e9 : a.eval (.tmp 9) = .pointer (some ⟨mb, 0, none⟩) := hF 9 (by decide +kernel)
      exact doesG_wp rfl rfl fun K' hK' => wp_load_mid 26 (.tmp 9) rfl mb 0 e9 (row8 SK) _ (HM.out.below hB HM.out.lt).range Tryd.underlying26 rfl (by rw [K32.out]; exact infoS) (hK' _ _ rfl (Below.refl _ _))
    · intro a w' hF hB hd
      have e0 : a.eval (.tmp 0) = .slice a0 l0.length c0 := hF 0 (by decide +kernel)
      exact doesG_val rfl (ex_move rfl e0) rfl rfl
    · intro a w' hF hB hd
      have e1 : a.eval (.tmp 1) = .slice a1 l1.length c1 := hF 1 (by decide +kernel)
      exact doesG_val rfl (ex_move rfl e1) rfl rfl
    · intro a w' hF hB hd
      have e7 : a.eval (.tmp 7) = .int .i64 (k : Int) := hF 7 (by decide +kernel)
      exact doesG_val rfl (ex_move rfl e7) rfl rfl
    · intro a w' hF hB hd
      have e34 : a.eval (.tmp 34) = .slice a1 l1.length c1 := hd 2 (by decide +kernel) (.inr (by decide))
      have e35 : a.eval (.tmp 35) = .int .i64 (k : Int) := hd 3 (by decide +kernel) (.inr (by decide))
      have f35 : a.tmps[35]?.getD undef = .int .i64 (k : Int) := by rw [← Array.getD_eq_getD_getElem?]; exact e35
      have q2 : (k : Int) ≤ (l1.length : Int) := by omega
      have q3 : (k : Int) ≤ (c1 : Int) := by omega
      exact doesG_val rfl (v := .slice a1 k c1) (by unfold execOp; simp only [e34]; go_simp) rfl rfl
    · intro a w' hF hB hd
      have e36 : a.eval (.tmp 36) = .slice a1 k c1 := hd 4 (by decide +kernel) (.inr (by decide))
      exact doesG_one rfl 36 rfl e36 _ (HX1.out.below hB) (fun h g hg => HOA.out h g (by have := HSZ.out; omega)) (fun _ _ h => h)
    · intro a w' hF hB hd
      have e33 : a.eval (.tmp 33) = .slice a0 l0.length c0 := hd 1 (by decide +kernel) (.inr (by decide))
      have e37 : Olds w6.heap.size (a.eval (.tmp 37)) ([l1.take k]) w' := hd 5 (by decide +kernel) (.inr (by decide))
      exact doesG_call rfl (ex_call (vs := #[.slice a0 l0.length c0, a.eval (.tmp 37)]) rfl (by simp only [List.map_toArray, List.map_cons, List.map_nil, e33]) (by go_simp)) rfl ((hof_any l0 [l1.take k] (by rw [List.flatten_cons, List.flatten_nil, List.append_nil]; rw [HTK.out]; omega) _ _ w' (HK8.out.below hB) e37.rds (HT8.out.below hB)).mono fun e w2 hh => ⟨_, by rw [hh.1, HSK.out]; congr; simp, rfl, hh.2⟩)
    · intro a w' hF hB hd
      have e32 : a.eval (.tmp 32) = .agg (row8 SK).toArray := hd 0 (by decide +kernel) (.inr (by decide))
      have e38 : a.eval (.tmp 38) = .agg (row8 SK).toArray := hd 6 (by decide +kernel) (.inr (by decide))
      exact doesG_val rfl (ex_binOp rfl e32 e38 (run_eqGuard_agg (P := Tryd.prog) (w := w') .eql 26 _ _ _ _ eqTypeS) (hek w')) rfl rfl
    · intro a w' hF hB hd
      have e39 : a.eval (.tmp 39) = .bool true := hd 7 (by decide +kernel) (.inr (by decide))
      exact doesG_val rfl (ex_move rfl e39) rfl rfl
    · intro a w' hF hB hd
      have e40 : a.eval (.tmp 40) = .bool true := hd 8 (by decide +kernel) (.inr (by decide))
      have e8 : a.eval (.tmp 8) = .pointer (some ⟨m, 0, none⟩) := hF 8 (by decide +kernel)
      exact doesG_val (wanted_of rfl (yielded_of rfl e40)) (ex_move rfl e8) rfl rfl
    · intro a w' hF hB hd
      have e40 : a.eval (.tmp 40) = .bool true := hd 8 (by decide +kernel) (.inr (by decide))
      have e41 : a.eval (.tmp 41) = .pointer (some ⟨m, 0, none⟩) := hd 9 (by decide +kernel) (.inr (by decide))
      exact doesG_call (wanted_of rfl (yielded_of rfl e40)) (ex_call (vs := #[.pointer (some ⟨m, 0, none⟩)]) rfl (by simp only [List.map_toArray, List.map_cons, List.map_nil, e41]) (by go_simp)) rfl ((HSU.out w' hB).mono fun e w2 hh => ⟨_, hh.1, rfl, hh.2⟩)
    · intro a w' hF hB hd
      have e40 : a.eval (.tmp 40) = .bool true := hd 8 (by decide +kernel) (.inr (by decide))
      have e0 : a.eval (.tmp 0) = .slice a0 l0.length c0 := hF 0 (by decide +kernel)
      exact doesG_val (wanted_of rfl (yielded_of rfl e40)) (ex_move rfl e0) rfl rfl
    · intro a w' hF hB hd
      have e40 : a.eval (.tmp 40) = .bool true := hd 8 (by decide +kernel) (.inr (by decide))
      have e1 : a.eval (.tmp 1) = .slice a1 l1.length c1 := hF 1 (by decide +kernel)
      exact doesG_val (wanted_of rfl (yielded_of rfl e40)) (ex_move rfl e1) rfl rfl
    · intro a w' hF hB hd
      have e40 : a.eval (.tmp 40) = .bool true := hd 8 (by decide +kernel) (.inr (by decide))
      have e44 : a.eval (.tmp 44) = .slice a1 l1.length c1 := hd 12 (by decide +kernel) (.inr (by decide))
      exact doesG_one (wanted_of rfl (yielded_of rfl e40)) 44 rfl e44 _ (HV8.out.below hB) (fun h g hg => HOV.out h g (by have := HSZ.out; omega)) (fun _ _ h => h)
    · intro a w' hF hB hd
      have e40 : a.eval (.tmp 40) = .bool true := hd 8 (by decide +kernel) (.inr (by decide))
      have e43 : a.eval (.tmp 43) = .slice a0 l0.length c0 := hd 11 (by decide +kernel) (.inr (by decide))
      have e45 : Olds w6.heap.size (a.eval (.tmp 45)) ([l1]) w' := hd 13 (by decide +kernel) (.inr (by decide))
      exact doesG_call (wanted_of rfl (yielded_of rfl e40)) (ex_call (vs := #[.slice a0 l0.length c0, a.eval (.tmp 45)]) rfl (by simp only [List.map_toArray, List.map_cons, List.map_nil, e43]) (by go_simp)) rfl ((hof_any l0 [l1] (by rw [List.flatten_cons, List.flatten_nil, List.append_nil]; omega) _ _ w' (HK8.out.below hB) e45.rds (HT8.out.below hB)).mono fun e w2 hh => ⟨_, by rw [hh.1, HSL.out]; congr; simp, rfl, hh.2⟩)
    · intro a w' hF hB hd
      have e40 : a.eval (.tmp 40) = .bool true := hd 8 (by decide +kernel) (.inr (by decide))
      have e42 : a.eval (.tmp 42) = .agg (row8 SL).toArray := hd 10 (by decide +kernel) (.inr (by decide))
      have e46 : a.eval (.tmp 46) = .agg (row8 SL).toArray := hd 14 (by decide +kernel) (.inr (by decide))
      exact doesG_val (wanted_of rfl (yielded_of rfl e40)) (ex_binOp rfl e42 e46 (run_eqGuard_agg (P := Tryd.prog) (w := w') .eql 26 _ _ _ _ eqTypeS) (hel w')) rfl rfl
    · intro a w' hF hB hd
      have e40 : a.eval (.tmp 40) = .bool true := hd 8 (by decide +kernel) (.inr (by decide))
      have e47 : a.eval (.tmp 47) = .bool true := hd 15 (by decide +kernel) (.inr (by decide))
      exact doesG_val rfl (ex_pick rfl e40 (by simp [e47])) rfl rfl
    · intro a w' hF hB hd
      have e48 : a.eval (.tmp 48) = .bool true := hd 16 (by decide +kernel) (.inr (by decide))
      exact doesG_val rfl (ex_move rfl e48) rfl rfl
    · intro a w' hF hB hd
      have e49 : a.eval (.tmp 49) = .bool true := hd 17 (by decide +kernel) (.inr (by decide))
      have e0 : a.eval (.tmp 0) = .slice a0 l0.length c0 := hF 0 (by decide +kernel)
      exact doesG_val (wanted_of rfl (yielded_of rfl e49)) (ex_move rfl e0) rfl rfl
    · intro a w' hF hB hd
      have e49 : a.eval (.tmp 49) = .bool true := hd 17 (by decide +kernel) (.inr (by decide))
      have e1 : a.eval (.tmp 1) = .slice a1 l1.length c1 := hF 1 (by decide +kernel)
      exact doesG_val (wanted_of rfl (yielded_of rfl e49)) (ex_move rfl e1) rfl rfl
    · intro a w' hF hB hd
      have e49 : a.eval (.tmp 49) = .bool true := hd 17 (by decide +kernel) (.inr (by decide))
      have e7 : a.eval (.tmp 7) = .int .i64 (k : Int) := hF 7 (by decide +kernel)
      exact doesG_val (wanted_of rfl (yielded_of rfl e49)) (ex_move rfl e7) rfl rfl
    · intro a w' hF hB hd
      have e49 : a.eval (.tmp 49) = .bool true := hd 17 (by decide +kernel) (.inr (by decide))
      have e51 : a.eval (.tmp 51) = .slice a1 l1.length c1 := hd 19 (by decide +kernel) (.inr (by decide))
      have e52 : a.eval (.tmp 52) = .int .i64 (k : Int) := hd 20 (by decide +kernel) (.inr (by decide))
      have f52 : a.tmps[52]?.getD undef = .int .i64 (k : Int) := by rw [← Array.getD_eq_getD_getElem?]; exact e52
      have q2 : (k : Int) ≤ (l1.length : Int) := by omega
      have q3 : (k : Int) ≤ (c1 : Int) := by omega
      exact doesG_val (wanted_of rfl (yielded_of rfl e49)) (v := .slice a1 k c1) (by unfold execOp; simp only [e51]; go_simp) rfl rfl
    · intro a w' hF hB hd
      have e49 : a.eval (.tmp 49) = .bool true := hd 17 (by decide +kernel) (.inr (by decide))
      have e1 : a.eval (.tmp 1) = .slice a1 l1.length c1 := hF 1 (by decide +kernel)
      exact doesG_val (wanted_of rfl (yielded_of rfl e49)) (ex_move rfl e1) rfl rfl
    · intro a w' hF hB hd
      have e49 : a.eval (.tmp 49) = .bool true := hd 17 (by decide +kernel) (.inr (by decide))
      have e7 : a.eval (.tmp 7) = .int .i64 (k : Int) := hF 7 (by decide +kernel)
      exact doesG_val (wanted_of rfl (yielded_of rfl e49)) (ex_move rfl e7) rfl rfl
    · intro a w' hF hB hd
      have e49 : a.eval (.tmp 49) = .bool true := hd 17 (by decide +kernel) (.inr (by decide))
      have e54 : a.eval (.tmp 54) = .slice a1 l1.length c1 := hd 22 (by decide +kernel) (.inr (by decide))
      have e55 : a.eval (.tmp 55) = .int .i64 (k : Int) := hd 23 (by decide +kernel) (.inr (by decide))
      have f55 : a.tmps[55]?.getD undef = .int .i64 (k : Int) := by rw [← Array.getD_eq_getD_getElem?]; exact e55
      have q2 : (k : Int) ≤ (l1.length : Int) := by omega
      have q3 : (k : Int) ≤ (c1 : Int) := by omega
      exact doesG_val (wanted_of rfl (yielded_of rfl e49)) (v := .slice xa (l1.length - k) (c1 - k)) (by unfold execOp; simp only [e54]; rw [HXA.out]; go_simp) rfl rfl
    · intro a w' hF hB hd
      have e49 : a.eval (.tmp 49) = .bool true := hd 17 (by decide +kernel) (.inr (by decide))
      have e53 : a.eval (.tmp 53) = .slice a1 k c1 := hd 21 (by decide +kernel) (.inr (by decide))
      have e56 : a.eval (.tmp 56) = .slice xa (l1.length - k) (c1 - k) := hd 24 (by decide +kernel) (.inr (by decide))
      exact doesG_two (wanted_of rfl (yielded_of rfl e49)) 53 56 rfl e53 e56 _ _ (HX1.out.below hB) (HX2.out.below hB) (fun h g hg => HOA.out h g (by have := HSZ.out; omega)) (fun h g hg => HOB.out h g (by have := HSZ.out; omega)) (fun _ _ h => h)
    · intro a w' hF hB hd
      have e49 : a.eval (.tmp 49) = .bool true := hd 17 (by decide +kernel) (.inr (by decide))
      have e50 : a.eval (.tmp 50) = .slice a0 l0.length c0 := hd 18 (by decide +kernel) (.inr (by decide))
      have e57 : Olds w6.heap.size (a.eval (.tmp 57)) ([l1.take k, l1.drop k]) w' := hd 25 (by decide +kernel) (.inr (by decide))
      exact doesG_call (wanted_of rfl (yielded_of rfl e49)) (ex_call (vs := #[.slice a0 l0.length c0, a.eval (.tmp 57)]) rfl (by simp only [List.map_toArray, List.map_cons, List.map_nil, e50]) (by go_simp)) rfl ((hof_any l0 [l1.take k, l1.drop k] (by rw [List.flatten_cons, List.flatten_cons, List.flatten_nil, List.append_nil, HAP.out]; omega) _ _ w' (HK8.out.below hB) e57.rds (HT8.out.below hB)).mono fun e w2 hh => ⟨_, by rw [hh.1, HSL.out]; rw [List.flatten_cons, List.flatten_cons, List.flatten_nil, List.append_nil, HAP.out], rfl, hh.2⟩)
    · intro a w' hF hB hd
      have e49 : a.eval (.tmp 49) = .bool true := hd 17 (by decide +kernel) (.inr (by decide))
      have e0 : a.eval (.tmp 0) = .slice a0 l0.length c0 := hF 0 (by decide +kernel)
      exact doesG_val (wanted_of rfl (yielded_of rfl e49)) (ex_move rfl e0) rfl rfl
    · intro a w' hF hB hd
      have e49 : a.eval (.tmp 49) = .bool true := hd 17 (by decide +kernel) (.inr (by decide))
      have e1 : a.eval (.tmp 1) = .slice a1 l1.length c1 := hF 1 (by decide +kernel)
      exact doesG_val (wanted_of rfl (yielded_of rfl e49)) (ex_move rfl e1) rfl rfl
    · intro a w' hF hB hd
      have e49 : a.eval (.tmp 49) = .bool true := hd 17 (by decide +kernel) (.inr (by decide))
      have e60 : a.eval (.tmp 60) = .slice a1 l1.length c1 := hd 28 (by decide +kernel) (.inr (by decide))
      exact doesG_one (wanted_of rfl (yielded_of rfl e49)) 60 rfl e60 _ (HV8.out.below hB) (fun h g hg => HOV.out h g (by have := HSZ.out; omega)) (fun _ _ h => h)
    · intro a w' hF hB hd
      have e49 : a.eval (.tmp 49) = .bool true := hd 17 (by decide +kernel) (.inr (by decide))
      have e59 : a.eval (.tmp 59) = .slice a0 l0.length c0 := hd 27 (by decide +kernel) (.inr (by decide))
      have e61 : Olds w6.heap.size (a.eval (.tmp 61)) ([l1]) w' := hd 29 (by decide +kernel) (.inr (by decide))
      exact doesG_call (wanted_of rfl (yielded_of rfl e49)) (ex_call (vs := #[.slice a0 l0.length c0, a.eval (.tmp 61)]) rfl (by simp only [List.map_toArray, List.map_cons, List.map_nil, e59]) (by go_simp)) rfl ((hof_any l0 [l1] (by rw [List.flatten_cons, List.flatten_nil, List.append_nil]; omega) _ _ w' (HK8.out.below hB) e61.rds (HT8.out.below hB)).mono fun e w2 hh => ⟨_, by rw [hh.1, HSL.out]; congr; simp, rfl, hh.2⟩)
    · intro a w' hF hB hd
      have e49 : a.eval (.tmp 49) = .bool true := hd 17 (by decide +kernel) (.inr (by decide))
      have e58 : a.eval (.tmp 58) = .agg (row8 SL).toArray := hd 26 (by decide +kernel) (.inr (by decide))
      have e62 : a.eval (.tmp 62) = .agg (row8 SL).toArray := hd 30 (by decide +kernel) (.inr (by decide))
      exact doesG_val (wanted_of rfl (yielded_of rfl e49)) (ex_binOp rfl e58 e62 (run_eqGuard_agg (P := Tryd.prog) (w := w') .eql 26 _ _ _ _ eqTypeS) (hel w')) rfl rfl
    · intro a w' hF hB hd
      have e49 : a.eval (.tmp 49) = .bool true := hd 17 (by decide +kernel) (.inr (by decide))
      have e63 : a.eval (.tmp 63) = .bool true := hd 31 (by decide +kernel) (.inr (by decide))
      exact doesG_val rfl (ex_pick rfl e49 (by simp [e63])) rfl rfl
    · intro a w' hF hB hd
      have e64 : a.eval (.tmp 64) = .bool true := hd 32 (by decide +kernel) (.inr (by decide))
      exact doesG_val rfl (ex_move rfl e64) rfl rfl
    · intro a w' hF hB hd
      have e65 : a.eval (.tmp 65) = .bool true := hd 33 (by decide +kernel) (.inr (by decide))
      exact doesG_call (wanted_of rfl (yielded_of rfl e65)) (ex_call (vs := #[]) rfl (by simp) (by go_simp)) rfl ((hawake_any w' (HT8.out.below hB)).mono fun e w2 hh => ⟨_, hh.1, rfl, hh.2⟩)
    · intro a w' hF hB hd
      have e65 : a.eval (.tmp 65) = .bool true := hd 33 (by decide +kernel) (.inr (by decide))
      have e66 : a.eval (.tmp 66) = .bool true := hd 34 (by decide +kernel) (.inr (by decide))
      exact doesG_val rfl (ex_pick rfl e65 (by simp [e66])) rfl rfl
    · intro a w' hF hB hd
      have e67 : a.eval (.tmp 67) = .bool true := hd 35 (by decide +kernel) (.inr (by decide))
      exact doesG_val rfl (ex_assign rfl e67) rfl rfl
  · intro vs w2 hb hv hap
    have e2 : vs 36 = .bool true := hv 36 (by decide) (by decide)
    simp only [List.take_succ_cons, List.take_zero, List.drop_succ_cons, List.drop_zero, putOps, Act.put, List.setIfInBounds_toArray, List.set_cons_zero, List.set_cons_succ, e2]
    have HB := Lib.hid (B6.out.on hb)
    clear hv hap e2 hb
    go_wp2_with fail
    go_ret
    exact ⟨rfl, HB.out⟩
set_option maxRecDepth 100000 in
theorem reads (os : Os) {H : Type} (enc : TypeId × Value → H) : ∃ places, DataW.whole enc Tryd.prog ((World.doorLaid Tryd.prog 400 os).forCall (fun _ _ => 0) ⟨#[], #[.slice none 0 0, .slice none 0 0, .int .u16 0], []⟩).memory Tryd.f7.params.toList Rows.hmacCutsSpec.vars false (#[.slice none 0 0, .slice none 0 0, .int .u16 0] : Array Value).toList 8 = some ([.nil, .nil, .lit (.int .u16 0)], [], places) :=
  ⟨[], by kernel_rfl⟩
set_option linter.unusedVariables false in
set_option maxHeartbeats 1000000 in
set_option maxRecDepth 100000 in
theorem lifted (os : Os) (started : os.Started) (H : Type) (enc : TypeId × Value → H) (F : Stop.Interp) :
    ReturnsInHanded {} Tryd.checked os 7 .any ((OpenSpec.ofChange Rows.hmacCutsSpec).preRow enc Tryd.prog Tryd.f7 Rows.hmacCutsRow.domain false laidP) (((OpenSpec.ofChange Rows.hmacCutsSpec).at F).post enc Tryd.prog Tryd.f7 false true false false) := by
  obtain ⟨places, hx⟩ := reads os enc
  refine returnsInHanded_of_row (C := Tryd.checked) (s := OpenSpec.ofChange Rows.hmacCutsSpec) own started (by kernel_rfl) Tryd.func7
    (witness_row_atRef (enc := enc) (C := Tryd.checked) false (World.doorLaid Tryd.prog 400 os) #[.slice none 0 0, .slice none 0 0, .int .u16 0] rfl (by kernel_rfl) (by kernel_rfl) (by kernel_rfl)
      (OpenSpec.preRow_of_cond 8 hx (by kernel_rfl) (fun k hk => by cases hk) (by kernel_rfl) (doorP_met os _))) ?_
  intro W base args ds gs before hval0 hW _ hcond hsz0 hL _ _
  have hsz : (DataW.weightsEach Tryd.prog (Tryd.f7.params.toList ++ Rows.hmacCutsSpec.plain.varTypes Tryd.prog) (ds ++ gs)).all (· ≤ reachBytes) = true := hsz0
  clear hsz0
  have hval : ∀ (j : Nat) t v, Tryd.f7.params[j]? = some t → args[j]? = some v → Value.okWide Tryd.prog W .any base t v := hval0
  have hW' := hW
  obtain ⟨p, q, hA0, hV, rfl, _, _⟩ := hW
  have hA : DataW.TrodAll enc Tryd.prog W 0 (fun _ => true) true Tryd.f7.params.toList args.toList ds p := hA0
  rw [Tryd.params7] at hA hval hsz
  obtain ⟨v0, vs0, d0, ds0, p0, q0, hargs, rfl, rfl, g0, r0⟩ := trodAll_cons hA
  obtain ⟨v1, vs1, d1, ds1, p1, q1, rfl, rfl, rfl, g1, r1⟩ := trodAll_cons r0
  obtain ⟨v2, vs2, d2, ds2, p2, q2, rfl, rfl, rfl, g2, r2⟩ := trodAll_cons r1
  obtain ⟨rfl, rfl, rfl⟩ := trodAll_nil r2
  obtain rfl : args = #[v0, v1, v2] := by cases args; simp_all
  obtain ⟨rfl, rfl⟩ := trodVars_none hV
  obtain ⟨l0, h0⟩ := open_bytes (hval 0 22 v0 rfl rfl) g0 (fun elems spare e => sized_slice hsz (j := 0) (t := 22) (e := 5) rfl (by rw [← e]; rfl) Tryd.underlying22)
  obtain ⟨l1, h1⟩ := open_bytes (hval 1 22 v1 rfl rfl) g1 (fun elems spare e => sized_slice hsz (j := 1) (t := 22) (e := 5) rfl (by rw [← e]; rfl) Tryd.underlying22)
  obtain ⟨a2, rfl, rfl, rfl, w2⟩ := open_int Tryd.underlying38 (hval 2 38 v2 rfl rfl) g2
  clear hA0 hval0
  have hlt := hW'.lt
  refine (walk W (tabP_of_laid hL) v0 l0 h0 v1 l1 h1 a2 w2).mono fun e W' ⟨he, hb⟩ => ?_
  subst he
  have hargs : DataW.TrodAll enc Tryd.prog W' 0 (fun b => decide (b < W.heap.size)) true _ _ _ _ := (trodAll_cons_mk (Below.trod laidOut (by kernel_rfl) (of_decide_eq_true (by kernel_rfl)) g0 hb (fun x hx => hlt x (by simp [hx]))) (trodAll_cons_mk (Below.trod laidOut (by kernel_rfl) (of_decide_eq_true (by kernel_rfl)) g1 hb (fun x hx => hlt x (by simp [hx]))) (trodAll_cons_mk (shut_int Tryd.underlying38 w2) trodAll_mk0)))
  simp only [List.append_nil] at hW' hargs
  exact ⟨_, rfl, post_law hW' (trodAll_cons_mk (shut_bool Tryd.underlying4 _) trodAll_mk0) hargs rfl hb⟩

theorem over : Rows.hmacCutsRow.holds Tryd.pinned (OpenSpec.ofChange Rows.hmacCutsSpec) :=
  OpenClaim.holds_of_cond 7 Tryd.f7 rfl rfl rfl rfl rfl rfl rfl ⟨rfl, rfl, rfl, rfl, rfl⟩ rfl rfl rfl rfl rfl (by kernel_rfl) Tryd.func7 (by kernel_rfl)
    (of_decide_eq_true (by kernel_rfl)) (by unfold Func.isWrapper; first | (rw [if_pos (by decide +kernel)]; kernel_rfl) | (rw [if_neg (by decide +kernel)]; exact ⟨rfl, rfl⟩))
    (fun os started H enc _ F => by rw [OpenClaim.pre_eq_preRow]; exact lifted os started H enc F)

/-- The given statement. -/
theorem proved : Rows.HmacCutsCardSaid :=
  Claim7.holds_tied_plain_at .later [] _ _ _ _
    over (fun _ h => by cases h) (by kernel_rfl) (fun _ h => by cases h) hmacCuts_row_tie rfl ⟨rfl, rfl⟩ (by kernel_rfl) rfl
    (fun f fn hf hfn => by
      obtain rfl : f = 7 := Option.some.inj ((show Tryd.prog.funcNamed "reliquary/reliquarylaw04.HmacCuts" = some 7 by kernel_rfl).symm.trans hf) |>.symm
      obtain rfl : fn = Tryd.f7 := (Option.some.inj (Tryd.func7.symm.trans hfn)).symm
      exact ⟨by kernel_rfl, fun j t ht => by
        rw [Tryd.params7] at ht
        have hm : t ∈ [22, 22, 38] := by simpa using Array.mem_of_getElem? ht
        have hall : ([22, 22, 38].all fun u => !Tryd.prog.wantsStandIn u) = true := by kernel_rfl
        exact (show Tryd.prog.wantsStandIn t = false by simpa using List.all_eq_true.1 hall t hm)⟩)
    (by kernel_rfl)
end Go.Proofs.YtllhljhbnopafaaDoor.hmacCuts
