/- ShaCuts: however bytes are cut in two, and written or handed on, they have one sum; and the law's closed case holds. No condition but that the program's table holds its constants when the call begins. -/
import Derived.Test.YtaephclooajabaaDoorRows
import Derived.Test.YtaephclooajabaaDoorShaTwo
import Derived.Test.YtaephclooajabaaDoorFactsP
import Derived.Test.YtaephclooajabaaDoorDoorP
import Derived.Test.YtaephclooajabaaDoorTie
import Derived.Test.YtaephclooajabaaDoorCards
import Derived.SevenTiedAt
import Derived.Test.YtaephclooajabaaDoorArgs
import Derived.WalkKit
import Derived.ProofKit
import Derived.OpenShut
import Derived.SizedLaws
import Derived.Carry
import Derived.Deep.DeepHandedRow
import Derived.Deep.DeepWitnessRowRef
namespace Go.Proofs.YtaephclooajabaaDoor.shaCuts
open Go.ChangeShapes Go.WideShapes Go.ChangeAt Go.RowKit

theorem own : ownKnob Tryd.prog.godebug = none := by kernel_rfl
set_option linter.unusedVariables false in
set_option maxHeartbeats 4000000 in
set_option maxRecDepth 100000 in
theorem walk (w : World) (ht : TabP w) (v0 : Value) (l0 : List Nat) (h0 : Rd w v0 l0) (a1 : Int) (w1 : (Lit.int .u16 a1).wf = true) :
    Calls Tryd.prog 7 #[v0, .int .u16 a1] w fun e w' => e = .returned (.bool true) ∧ Below w.heap.size w w' := by
  obtain ⟨n1, hn1, rfl⟩ : ∃ n : Nat, n < 65536 ∧ a1 = (n : Int) := by
    have k : 0 ≤ a1 ∧ a1 ≤ 65535 := by simpa [Lit.wf, IntKind.min, IntKind.max, IntKind.signed, IntKind.bits] using w1
    exact ⟨a1.toNat, by omega, by omega⟩
  obtain ⟨a0, c0, rfl, hc0⟩ := h0.shape
  have q0 := h0.fits
  obtain ⟨k, hk⟩ : ∃ k, k = n1 % (l0.length + 1) := ⟨_, rfl⟩
  have hkl : k ≤ l0.length := by rw [hk]; have := Nat.mod_lt n1 (show 0 < l0.length + 1 by omega); omega
  have hkI : (n1 : Int) % ((l0.length : Int) + 1) = (k : Int) := by rw [hk]; simp
  obtain ⟨SK, hSK⟩ : ∃ S, S = SM.sha (l0.take k) := ⟨_, rfl⟩
  obtain ⟨SL, hSL⟩ : ∃ S, S = SM.sha l0 := ⟨_, rfl⟩
  have bk : Bytes 32 SK := by rw [hSK]; exact sha_bytes _
  have bl : Bytes 32 SL := by rw [hSL]; exact sha_bytes _
  have hek := fun w => run_eql_sum bk bk w
  have hel := fun w => run_eql_sum bl bl w
  simp only [decide_true] at hek hel
  have K32 := Lib.hid (show (row8 SK).length = 32 by rw [row8_len]; exact bk.1)
  have HSK := Lib.hid hSK
  have HSL := Lib.hid hSL
  have HV := Lib.hid h0
  have HT := Lib.hid ht
  have HKK := Lib.hid ht.lt
  have x1 := h0.take k hkl
  have x2 := h0.drop k hkl
  have HTK := Lib.hid (show (l0.take k).length = k by rw [List.length_take]; omega)
  have HTD := Lib.hid (show (l0.drop k).length = l0.length - k from List.length_drop)
  have HAP := Lib.hid (show l0.take k ++ l0.drop k = l0 from List.take_append_drop k l0)
  have R1 := Lib.hid x1
  have R2 := Lib.hid x2
  have HX1O := Lib.hid (fun (hl : 0 < (l0.take k).length) (g : Nat) (hg : w.heap.size ≤ g) => x1.old hl g hg)
  have HX2O := Lib.hid (fun (hl : 0 < (l0.drop k).length) (g : Nat) (hg : w.heap.size ≤ g) => x2.old hl g hg)
  clear h0 ht hSK hSL bk bl x1 x2 hk
  have p2 : (k : Int) ≤ (l0.length : Int) := by omega
  have p3 : (k : Int) ≤ (c0 : Int) := by omega
  go_enter Tryd.func7, Tryd.ntmps7
  go_upto_region 2 with (fail)
  rw [hkI]
  obtain ⟨xa, hxa⟩ : ∃ xa, xa = if c0 = k then a0 else a0.map (·.add k) := ⟨_, rfl⟩
  rw [← hxa] at R2
  have HXA := Lib.hid hxa
  clear hxa hkI
  go_upto_region 6 with (first
    | (go_at_call 14; refine (new_ex _).mono ?_; rintro e wa ⟨h, hh, rfl, h1, b1⟩; have HH := Lib.hid hh; have B1 := Lib.hid b1; have W1 := Lib.hid (write_any h [] (l0.take k) (.slice a0 k c0) wa (R1.out.below b1) (fun hl => R1.out.old hl h (by omega)) h1 (HT.out.below b1) (by have := HKK.out; omega) (by rw [HTK.out]; simp; omega)); clear h1 b1 hh)
    | (go_at_call 15; (with_reducible refine W1.out.mono ?_); rintro e wb ⟨rfl, h2, g2⟩; rw [List.nil_append] at h2; have B2 := Lib.hid (B1.out.grown g2 B1.out.size (fun k hk => by have := Option.some.inj hk; have := HH.out; omega)); have W2 := Lib.hid (write_any h (l0.take k) [] (.slice none 0 0) wb (Rd.none_ wb) (fun hl => by simp at hl) h2 (HT.out.below B2.out) (by have := HKK.out; have := HH.out; omega) (by rw [HTK.out]; simp; omega)); clear h2 g2)
    | (go_at_call 15; (with_reducible refine W2.out.mono ?_); rintro e wc ⟨rfl, h3, g3⟩; rw [List.append_nil] at h3; have B3 := Lib.hid (B2.out.grown g3 B2.out.size (fun k hk => by have := Option.some.inj hk; have := HH.out; omega)); have H3 := Lib.hid h3; have S3 := Lib.hid (sum_of h3 (HT.out.below B3.out) (by rw [HTK.out]; omega) HSK.out); clear h3 g3)
    | (go_at_call 17; (with_reducible refine S3.out.mono ?_); rintro e wd ⟨rfl, b4⟩; have B4 := Lib.hid (B3.out.on b4); have H4 := Lib.hid (H3.out.below b4 H3.out.lt); clear b4)
    | (refine wpList_store_blk rfl 26 (.tmp 7) (.tmp 31) rfl wd.heap.size 0 (row8 SK) rfl rfl 26 (row8 (List.replicate 32 0)) (Blk.new wd 26 (row8 (List.replicate 32 0)) _ rfl) (by rw [K32.out]; exact Nat.le_refl _) (by rw [K32.out]; exact infoS) (row8_one _) ?_; intro we b5 g5; rw [splice_all _ _ (by rw [K32.out]; rfl)] at b5; have M5 := Lib.hid b5; have HMB := Lib.hid (show h ≠ wd.heap.size by have := H4.out.lt; omega); have H5 := Lib.hid ((H4.out.alloc (.cells (row8 (List.replicate 32 0)).toArray 26)).grown g5 (fun q => HMB.out (Option.some.inj q))); have B5 := Lib.hid (own_turn B4.out g5); clear b5 g5))
  simp only [put_none]
  have W6 := Lib.hid (write_any h (l0.take k) (l0.drop k) (.slice xa (l0.length - k) (c0 - k)) we (R2.out.below B5.out) (fun hl => R2.out.old hl h (by have := HH.out; omega)) H5.out (HT.out.below B5.out) (by have := HKK.out; have := HH.out; omega) (by rw [HTK.out, HTD.out]; omega))
  obtain ⟨mb, hmb⟩ : ∃ mb, mb = wd.heap.size := ⟨_, rfl⟩
  rw [← hmb] at M5 HMB ⊢
  clear H4 H3 B4 B3 B2 B1 S3 W1 W2 hmb
  go_upto_region 8 with (go_at_call 15; rw [← HXA.out]; (with_reducible refine W6.out.mono ?_); rintro e w6 ⟨rfl, h6, g6⟩; rw [HAP.out] at h6; have B6 := Lib.hid (B5.out.grown g6 B5.out.size (fun k hk => by have := Option.some.inj hk; have := HH.out; omega)); have H6 := Lib.hid h6; have HM := Lib.hid (M5.out.grown g6 (fun q => HMB.out (Option.some.inj q).symm)); clear h6 g6)
  have HT8 := Lib.hid (HT.out.below B6.out)
  have HV8 := Lib.hid (HV.out.below B6.out)
  have HX1 := Lib.hid (R1.out.below B6.out)
  have HX2 := Lib.hid (R2.out.below B6.out)
  have HSU := Lib.hid (fun W (hW : Below w6.heap.size w6 W) => sum_of (H6.out.below hW H6.out.lt) (HT8.out.below hW) (by omega) HSL.out)
  clear W6 M5 H5 B5 HMB R1 R2 HX1O HX2O
  have HOK := Lib.hid (show ∀ W v, Below w6.heap.size w6 W → Rds W v [l0.take k] → Calls Tryd.prog 11 #[v] W fun e w' => e = .returned (.agg (row8 SK).toArray) ∧ Below W.heap.size W w' from fun W v hW hv => by
    have e1 : ([l0.take k] : List (List Nat)).flatten = l0.take k := by simp
    have h := of_any [l0.take k] (by rw [e1]; rw [List.length_take]; omega) v W hv (HT8.out.below hW)
    rw [e1] at h
    rw [HSK.out]; exact h)
  have HOL := Lib.hid (show ∀ W v, Below w6.heap.size w6 W → Rds W v [l0] → Calls Tryd.prog 11 #[v] W fun e w' => e = .returned (.agg (row8 SL).toArray) ∧ Below W.heap.size W w' from fun W v hW hv => by
    have e1 : ([l0] : List (List Nat)).flatten = l0 := by simp
    have h := of_any [l0] (by rw [e1]; omega) v W hv (HT8.out.below hW)
    rw [e1] at h
    rw [HSL.out]; exact h)
  have HOX := Lib.hid (show ∀ W v, Below w6.heap.size w6 W → Rds W v [l0.take k, l0.drop k] → Calls Tryd.prog 11 #[v] W fun e w' => e = .returned (.agg (row8 SL).toArray) ∧ Below W.heap.size W w' from fun W v hW hv => by
    have e1 : ([l0.take k, l0.drop k] : List (List Nat)).flatten = l0 := by rw [List.flatten_cons, List.flatten_cons, List.flatten_nil, List.append_nil, List.take_append_drop]
    have h := of_any [l0.take k, l0.drop k] (by rw [e1]; omega) v W hv (HT8.out.below hW)
    rw [e1] at h
    rw [HSL.out]; exact h)
  have HON := Lib.hid (show ∀ W v, Below w6.heap.size w6 W → Rds W v [l0, []] → Calls Tryd.prog 11 #[v] W fun e w' => e = .returned (.agg (row8 SL).toArray) ∧ Below W.heap.size W w' from fun W v hW hv => by
    have e1 : ([l0, []] : List (List Nat)).flatten = l0 := by simp
    have h := of_any [l0, []] (by rw [e1]; omega) v W hv (HT8.out.below hW)
    rw [e1] at h
    rw [HSL.out]; exact h)
  refine wp_region_facts2 (by kernel_rfl) (by kernel_rfl) [.val (.agg (row8 SK).toArray), .val (.slice a0 l0.length c0), .val (.int .i64 (k : Int)), .val (.slice a0 k c0), .rds ([l0.take k]), .val (.agg (row8 SK).toArray), .val (.bool true), .val (.bool true), .val (.pointer (some ⟨h, 0, none⟩)), .val (.agg (row8 SL).toArray), .val (.slice a0 l0.length c0), .rds ([l0]), .val (.agg (row8 SL).toArray), .val (.bool true), .val (.bool true), .val (.bool true), .val (.slice a0 l0.length c0), .val (.int .i64 (k : Int)), .val (.slice a0 k c0), .val (.slice a0 l0.length c0), .val (.int .i64 (k : Int)), .val (.slice xa (l0.length - k) (c0 - k)), .rds ([l0.take k, l0.drop k]), .val (.agg (row8 SL).toArray), .val (.slice a0 l0.length c0), .rds ([l0]), .val (.agg (row8 SL).toArray), .val (.bool true), .val (.bool true), .val (.bool true), .val (.slice a0 l0.length c0), .rds ([l0, []]), .val (.agg (row8 SL).toArray), .val (.slice a0 l0.length c0), .rds ([l0]), .val (.agg (row8 SL).toArray), .val (.bool true), .val (.bool true), .val (.bool true), .val (.bool true), .val (.bool true), .val (.bool true)] ?_ ?_
  · refine ⟨?_, ?_, ?_, ?_, ?_, ?_, ?_, ?_, ?_, ?_, ?_, ?_, ?_, ?_, ?_, ?_, ?_, ?_, ?_, ?_, ?_, ?_, ?_, ?_, ?_, ?_, ?_, ?_, ?_, ?_, ?_, ?_, ?_, ?_, ?_, ?_, ?_, ?_, ?_, ?_, ?_, ?_, trivial⟩
    · intro a w' hF hB hd
      have e7 : a.eval (.tmp 7) = .pointer (some ⟨mb, 0, none⟩) := hF 7 (by decide +kernel)
      exact ⟨rfl, fun K hK => wp_load_mid 26 (.tmp 7) rfl mb 0 e7 (row8 SK) _ (HM.out.below hB HM.out.lt).range Tryd.underlying26 rfl (by rw [K32.out]; exact infoS) (hK _ _ (Below.refl _ _) rfl)⟩
    · intro a w' hF hB hd
      have e0 : a.eval (.tmp 0) = .slice a0 l0.length c0 := hF 0 (by decide +kernel)
      exact does2_val rfl (ex_move rfl e0) rfl
    · intro a w' hF hB hd
      have e5 : a.eval (.tmp 5) = .int .i64 (k : Int) := hF 5 (by decide +kernel)
      exact does2_val rfl (ex_move rfl e5) rfl
    · intro a w' hF hB hd
      have e39 : a.eval (.tmp 39) = .slice a0 l0.length c0 := hd 1 (by decide +kernel)
      have e40 : a.eval (.tmp 40) = .int .i64 (k : Int) := hd 2 (by decide +kernel)
      have f40 : a.tmps[40]?.getD undef = .int .i64 (k : Int) := by rw [← Array.getD_eq_getD_getElem?]; exact e40
      have q2 : (k : Int) ≤ (l0.length : Int) := by omega
      have q3 : (k : Int) ≤ (c0 : Int) := by omega
      exact does2_val rfl (v := .slice a0 k c0) (by unfold execOp; simp only [e39]; go_simp) rfl
    · intro a w' hF hB hd
      have e41 : a.eval (.tmp 41) = .slice a0 k c0 := hd 3 (by decide +kernel)
      have f41 : a.tmps[41]?.getD undef = .slice a0 k c0 := by rw [← Array.getD_eq_getD_getElem?]; exact e41
      refine ⟨rfl, fun K hK => ?_⟩
      have hr := rds_one (HX1.out.below hB) rfl
      unfold Oper.wp execOp
      go_simp
      exact hK _ _ ((Below.refl _ _).alloc (Nat.le_refl _) _) hr
    · intro a w' hF hB hd
      have e42 : Rds w' (a.eval (.tmp 42)) ([l0.take k]) := hd 4 (by decide +kernel)
      exact does2_call rfl (ex_call (vs := #[a.eval (.tmp 42)]) rfl (by simp only [List.map_toArray, List.map_cons, List.map_nil]) (by go_simp)) ((HOK.out w' _ hB e42).mono fun e w2 hh => ⟨_, hh.1, rfl, hh.2⟩)
    · intro a w' hF hB hd
      have e38 : a.eval (.tmp 38) = .agg (row8 SK).toArray := hd 0 (by decide +kernel)
      have e43 : a.eval (.tmp 43) = .agg (row8 SK).toArray := hd 5 (by decide +kernel)
      exact does2_val rfl (ex_binOp rfl e38 e43 (run_eqGuard_agg (P := Tryd.prog) (w := w') .eql 26 _ _ _ _ eqTypeS) (hek w')) rfl
    · intro a w' hF hB hd
      have e44 : a.eval (.tmp 44) = .bool true := hd 6 (by decide +kernel)
      exact does2_val rfl (ex_move rfl e44) rfl
    · intro a w' hF hB hd
      have e45 : a.eval (.tmp 45) = .bool true := hd 7 (by decide +kernel)
      have e6 : a.eval (.tmp 6) = .pointer (some ⟨h, 0, none⟩) := hF 6 (by decide +kernel)
      exact does2_val (wanted_of rfl (yielded_of rfl e45)) (ex_move rfl e6) rfl
    · intro a w' hF hB hd
      have e45 : a.eval (.tmp 45) = .bool true := hd 7 (by decide +kernel)
      have e46 : a.eval (.tmp 46) = .pointer (some ⟨h, 0, none⟩) := hd 8 (by decide +kernel)
      exact does2_call (wanted_of rfl (yielded_of rfl e45)) (ex_call (vs := #[.pointer (some ⟨h, 0, none⟩)]) rfl (by simp only [List.map_toArray, List.map_cons, List.map_nil, e46]) (by go_simp)) ((HSU.out w' hB).mono fun e w2 hh => ⟨_, hh.1, rfl, hh.2⟩)
    · intro a w' hF hB hd
      have e45 : a.eval (.tmp 45) = .bool true := hd 7 (by decide +kernel)
      have e0 : a.eval (.tmp 0) = .slice a0 l0.length c0 := hF 0 (by decide +kernel)
      exact does2_val (wanted_of rfl (yielded_of rfl e45)) (ex_move rfl e0) rfl
    · intro a w' hF hB hd
      have e45 : a.eval (.tmp 45) = .bool true := hd 7 (by decide +kernel)
      have e48 : a.eval (.tmp 48) = .slice a0 l0.length c0 := hd 10 (by decide +kernel)
      have f48 : a.tmps[48]?.getD undef = .slice a0 l0.length c0 := by rw [← Array.getD_eq_getD_getElem?]; exact e48
      refine ⟨(wanted_of rfl (yielded_of rfl e45)), fun K hK => ?_⟩
      have hr := rds_one (HV8.out.below hB) rfl
      unfold Oper.wp execOp
      go_simp
      exact hK _ _ ((Below.refl _ _).alloc (Nat.le_refl _) _) hr
    · intro a w' hF hB hd
      have e45 : a.eval (.tmp 45) = .bool true := hd 7 (by decide +kernel)
      have e49 : Rds w' (a.eval (.tmp 49)) ([l0]) := hd 11 (by decide +kernel)
      exact does2_call (wanted_of rfl (yielded_of rfl e45)) (ex_call (vs := #[a.eval (.tmp 49)]) rfl (by simp only [List.map_toArray, List.map_cons, List.map_nil]) (by go_simp)) ((HOL.out w' _ hB e49).mono fun e w2 hh => ⟨_, hh.1, rfl, hh.2⟩)
    · intro a w' hF hB hd
      have e45 : a.eval (.tmp 45) = .bool true := hd 7 (by decide +kernel)
      have e47 : a.eval (.tmp 47) = .agg (row8 SL).toArray := hd 9 (by decide +kernel)
      have e50 : a.eval (.tmp 50) = .agg (row8 SL).toArray := hd 12 (by decide +kernel)
      exact does2_val (wanted_of rfl (yielded_of rfl e45)) (ex_binOp rfl e47 e50 (run_eqGuard_agg (P := Tryd.prog) (w := w') .eql 26 _ _ _ _ eqTypeS) (hel w')) rfl
    · intro a w' hF hB hd
      have e45 : a.eval (.tmp 45) = .bool true := hd 7 (by decide +kernel)
      have e51 : a.eval (.tmp 51) = .bool true := hd 13 (by decide +kernel)
      exact does2_val rfl (ex_pick rfl e45 (by simp [e51])) rfl
    · intro a w' hF hB hd
      have e52 : a.eval (.tmp 52) = .bool true := hd 14 (by decide +kernel)
      exact does2_val rfl (ex_move rfl e52) rfl
    · intro a w' hF hB hd
      have e53 : a.eval (.tmp 53) = .bool true := hd 15 (by decide +kernel)
      have e0 : a.eval (.tmp 0) = .slice a0 l0.length c0 := hF 0 (by decide +kernel)
      exact does2_val (wanted_of rfl (yielded_of rfl e53)) (ex_move rfl e0) rfl
    · intro a w' hF hB hd
      have e53 : a.eval (.tmp 53) = .bool true := hd 15 (by decide +kernel)
      have e5 : a.eval (.tmp 5) = .int .i64 (k : Int) := hF 5 (by decide +kernel)
      exact does2_val (wanted_of rfl (yielded_of rfl e53)) (ex_move rfl e5) rfl
    · intro a w' hF hB hd
      have e53 : a.eval (.tmp 53) = .bool true := hd 15 (by decide +kernel)
      have e54 : a.eval (.tmp 54) = .slice a0 l0.length c0 := hd 16 (by decide +kernel)
      have e55 : a.eval (.tmp 55) = .int .i64 (k : Int) := hd 17 (by decide +kernel)
      have f55 : a.tmps[55]?.getD undef = .int .i64 (k : Int) := by rw [← Array.getD_eq_getD_getElem?]; exact e55
      have q2 : (k : Int) ≤ (l0.length : Int) := by omega
      have q3 : (k : Int) ≤ (c0 : Int) := by omega
      exact does2_val (wanted_of rfl (yielded_of rfl e53)) (v := .slice a0 k c0) (by unfold execOp; simp only [e54]; go_simp) rfl
    · intro a w' hF hB hd
      have e53 : a.eval (.tmp 53) = .bool true := hd 15 (by decide +kernel)
      have e0 : a.eval (.tmp 0) = .slice a0 l0.length c0 := hF 0 (by decide +kernel)
      exact does2_val (wanted_of rfl (yielded_of rfl e53)) (ex_move rfl e0) rfl
    · intro a w' hF hB hd
      have e53 : a.eval (.tmp 53) = .bool true := hd 15 (by decide +kernel)
      have e5 : a.eval (.tmp 5) = .int .i64 (k : Int) := hF 5 (by decide +kernel)
      exact does2_val (wanted_of rfl (yielded_of rfl e53)) (ex_move rfl e5) rfl
    · intro a w' hF hB hd
      have e53 : a.eval (.tmp 53) = .bool true := hd 15 (by decide +kernel)
      have e57 : a.eval (.tmp 57) = .slice a0 l0.length c0 := hd 19 (by decide +kernel)
      have e58 : a.eval (.tmp 58) = .int .i64 (k : Int) := hd 20 (by decide +kernel)
      have f58 : a.tmps[58]?.getD undef = .int .i64 (k : Int) := by rw [← Array.getD_eq_getD_getElem?]; exact e58
      have q2 : (k : Int) ≤ (l0.length : Int) := by omega
      have q3 : (k : Int) ≤ (c0 : Int) := by omega
      exact does2_val (wanted_of rfl (yielded_of rfl e53)) (v := .slice xa (l0.length - k) (c0 - k)) (by unfold execOp; simp only [e57]; rw [HXA.out]; go_simp) rfl
    · intro a w' hF hB hd
      have e53 : a.eval (.tmp 53) = .bool true := hd 15 (by decide +kernel)
      have e56 : a.eval (.tmp 56) = .slice a0 k c0 := hd 18 (by decide +kernel)
      have f56 : a.tmps[56]?.getD undef = .slice a0 k c0 := by rw [← Array.getD_eq_getD_getElem?]; exact e56
      have e59 : a.eval (.tmp 59) = .slice xa (l0.length - k) (c0 - k) := hd 21 (by decide +kernel)
      have f59 : a.tmps[59]?.getD undef = .slice xa (l0.length - k) (c0 - k) := by rw [← Array.getD_eq_getD_getElem?]; exact e59
      refine ⟨(wanted_of rfl (yielded_of rfl e53)), fun K hK => ?_⟩
      have hr := rds_two (HX1.out.below hB) (HX2.out.below hB) rfl
      unfold Oper.wp execOp
      go_simp
      exact hK _ _ ((Below.refl _ _).alloc (Nat.le_refl _) _) hr
    · intro a w' hF hB hd
      have e53 : a.eval (.tmp 53) = .bool true := hd 15 (by decide +kernel)
      have e60 : Rds w' (a.eval (.tmp 60)) ([l0.take k, l0.drop k]) := hd 22 (by decide +kernel)
      exact does2_call (wanted_of rfl (yielded_of rfl e53)) (ex_call (vs := #[a.eval (.tmp 60)]) rfl (by simp only [List.map_toArray, List.map_cons, List.map_nil]) (by go_simp)) ((HOX.out w' _ hB e60).mono fun e w2 hh => ⟨_, hh.1, rfl, hh.2⟩)
    · intro a w' hF hB hd
      have e53 : a.eval (.tmp 53) = .bool true := hd 15 (by decide +kernel)
      have e0 : a.eval (.tmp 0) = .slice a0 l0.length c0 := hF 0 (by decide +kernel)
      exact does2_val (wanted_of rfl (yielded_of rfl e53)) (ex_move rfl e0) rfl
    · intro a w' hF hB hd
      have e53 : a.eval (.tmp 53) = .bool true := hd 15 (by decide +kernel)
      have e62 : a.eval (.tmp 62) = .slice a0 l0.length c0 := hd 24 (by decide +kernel)
      have f62 : a.tmps[62]?.getD undef = .slice a0 l0.length c0 := by rw [← Array.getD_eq_getD_getElem?]; exact e62
      refine ⟨(wanted_of rfl (yielded_of rfl e53)), fun K hK => ?_⟩
      have hr := rds_one (HV8.out.below hB) rfl
      unfold Oper.wp execOp
      go_simp
      exact hK _ _ ((Below.refl _ _).alloc (Nat.le_refl _) _) hr
    · intro a w' hF hB hd
      have e53 : a.eval (.tmp 53) = .bool true := hd 15 (by decide +kernel)
      have e63 : Rds w' (a.eval (.tmp 63)) ([l0]) := hd 25 (by decide +kernel)
      exact does2_call (wanted_of rfl (yielded_of rfl e53)) (ex_call (vs := #[a.eval (.tmp 63)]) rfl (by simp only [List.map_toArray, List.map_cons, List.map_nil]) (by go_simp)) ((HOL.out w' _ hB e63).mono fun e w2 hh => ⟨_, hh.1, rfl, hh.2⟩)
    · intro a w' hF hB hd
      have e53 : a.eval (.tmp 53) = .bool true := hd 15 (by decide +kernel)
      have e61 : a.eval (.tmp 61) = .agg (row8 SL).toArray := hd 23 (by decide +kernel)
      have e64 : a.eval (.tmp 64) = .agg (row8 SL).toArray := hd 26 (by decide +kernel)
      exact does2_val (wanted_of rfl (yielded_of rfl e53)) (ex_binOp rfl e61 e64 (run_eqGuard_agg (P := Tryd.prog) (w := w') .eql 26 _ _ _ _ eqTypeS) (hel w')) rfl
    · intro a w' hF hB hd
      have e53 : a.eval (.tmp 53) = .bool true := hd 15 (by decide +kernel)
      have e65 : a.eval (.tmp 65) = .bool true := hd 27 (by decide +kernel)
      exact does2_val rfl (ex_pick rfl e53 (by simp [e65])) rfl
    · intro a w' hF hB hd
      have e66 : a.eval (.tmp 66) = .bool true := hd 28 (by decide +kernel)
      exact does2_val rfl (ex_move rfl e66) rfl
    · intro a w' hF hB hd
      have e67 : a.eval (.tmp 67) = .bool true := hd 29 (by decide +kernel)
      have e0 : a.eval (.tmp 0) = .slice a0 l0.length c0 := hF 0 (by decide +kernel)
      exact does2_val (wanted_of rfl (yielded_of rfl e67)) (ex_move rfl e0) rfl
    · intro a w' hF hB hd
      have e67 : a.eval (.tmp 67) = .bool true := hd 29 (by decide +kernel)
      have e68 : a.eval (.tmp 68) = .slice a0 l0.length c0 := hd 30 (by decide +kernel)
      have f68 : a.tmps[68]?.getD undef = .slice a0 l0.length c0 := by rw [← Array.getD_eq_getD_getElem?]; exact e68
      refine ⟨(wanted_of rfl (yielded_of rfl e67)), fun K hK => ?_⟩
      have hr := rds_two (HV8.out.below hB) (Rd.none_ w') rfl
      unfold Oper.wp execOp
      go_simp
      exact hK _ _ ((Below.refl _ _).alloc (Nat.le_refl _) _) hr
    · intro a w' hF hB hd
      have e67 : a.eval (.tmp 67) = .bool true := hd 29 (by decide +kernel)
      have e69 : Rds w' (a.eval (.tmp 69)) ([l0, []]) := hd 31 (by decide +kernel)
      exact does2_call (wanted_of rfl (yielded_of rfl e67)) (ex_call (vs := #[a.eval (.tmp 69)]) rfl (by simp only [List.map_toArray, List.map_cons, List.map_nil]) (by go_simp)) ((HON.out w' _ hB e69).mono fun e w2 hh => ⟨_, hh.1, rfl, hh.2⟩)
    · intro a w' hF hB hd
      have e67 : a.eval (.tmp 67) = .bool true := hd 29 (by decide +kernel)
      have e0 : a.eval (.tmp 0) = .slice a0 l0.length c0 := hF 0 (by decide +kernel)
      exact does2_val (wanted_of rfl (yielded_of rfl e67)) (ex_move rfl e0) rfl
    · intro a w' hF hB hd
      have e67 : a.eval (.tmp 67) = .bool true := hd 29 (by decide +kernel)
      have e71 : a.eval (.tmp 71) = .slice a0 l0.length c0 := hd 33 (by decide +kernel)
      have f71 : a.tmps[71]?.getD undef = .slice a0 l0.length c0 := by rw [← Array.getD_eq_getD_getElem?]; exact e71
      refine ⟨(wanted_of rfl (yielded_of rfl e67)), fun K hK => ?_⟩
      have hr := rds_one (HV8.out.below hB) rfl
      unfold Oper.wp execOp
      go_simp
      exact hK _ _ ((Below.refl _ _).alloc (Nat.le_refl _) _) hr
    · intro a w' hF hB hd
      have e67 : a.eval (.tmp 67) = .bool true := hd 29 (by decide +kernel)
      have e72 : Rds w' (a.eval (.tmp 72)) ([l0]) := hd 34 (by decide +kernel)
      exact does2_call (wanted_of rfl (yielded_of rfl e67)) (ex_call (vs := #[a.eval (.tmp 72)]) rfl (by simp only [List.map_toArray, List.map_cons, List.map_nil]) (by go_simp)) ((HOL.out w' _ hB e72).mono fun e w2 hh => ⟨_, hh.1, rfl, hh.2⟩)
    · intro a w' hF hB hd
      have e67 : a.eval (.tmp 67) = .bool true := hd 29 (by decide +kernel)
      have e70 : a.eval (.tmp 70) = .agg (row8 SL).toArray := hd 32 (by decide +kernel)
      have e73 : a.eval (.tmp 73) = .agg (row8 SL).toArray := hd 35 (by decide +kernel)
      exact does2_val (wanted_of rfl (yielded_of rfl e67)) (ex_binOp rfl e70 e73 (run_eqGuard_agg (P := Tryd.prog) (w := w') .eql 26 _ _ _ _ eqTypeS) (hel w')) rfl
    · intro a w' hF hB hd
      have e67 : a.eval (.tmp 67) = .bool true := hd 29 (by decide +kernel)
      have e74 : a.eval (.tmp 74) = .bool true := hd 36 (by decide +kernel)
      exact does2_val rfl (ex_pick rfl e67 (by simp [e74])) rfl
    · intro a w' hF hB hd
      have e75 : a.eval (.tmp 75) = .bool true := hd 37 (by decide +kernel)
      exact does2_val rfl (ex_move rfl e75) rfl
    · intro a w' hF hB hd
      have e76 : a.eval (.tmp 76) = .bool true := hd 38 (by decide +kernel)
      exact does2_call (wanted_of rfl (yielded_of rfl e76)) (ex_call (vs := #[]) rfl (by simp) (by go_simp)) ((awake_any w' (HT8.out.below hB)).mono fun e w2 hh => ⟨_, hh.1, rfl, hh.2⟩)
    · intro a w' hF hB hd
      have e76 : a.eval (.tmp 76) = .bool true := hd 38 (by decide +kernel)
      have e77 : a.eval (.tmp 77) = .bool true := hd 39 (by decide +kernel)
      exact does2_val rfl (ex_pick rfl e76 (by simp [e77])) rfl
    · intro a w' hF hB hd
      have e78 : a.eval (.tmp 78) = .bool true := hd 40 (by decide +kernel)
      exact does2_val rfl (ex_assign rfl e78) rfl
  · intro vs w2 hb hv
    have e2 : vs 41 = .bool true := hv 41 (by decide)
    simp only [putOps, Act.put, List.setIfInBounds_toArray, List.set_cons_zero, List.set_cons_succ, e2]
    have hfin := B6.out.on hb
    clear hv e2 hb
    go_wp2_with fail
    go_ret
    exact ⟨rfl, hfin⟩
set_option maxRecDepth 100000 in
theorem reads (os : Os) {H : Type} (enc : TypeId × Value → H) : ∃ places, DataW.whole enc Tryd.prog ((World.doorLaid Tryd.prog 400 os).forCall (fun _ _ => 0) ⟨#[], #[.slice none 0 0, .int .u16 0], []⟩).memory Tryd.f7.params.toList Rows.shaCutsSpec.vars false (#[.slice none 0 0, .int .u16 0] : Array Value).toList 8 = some ([.nil, .lit (.int .u16 0)], [], places) :=
  ⟨[], by kernel_rfl⟩
set_option linter.unusedVariables false in
set_option maxHeartbeats 1000000 in
set_option maxRecDepth 100000 in
theorem lifted (os : Os) (started : os.Started) (H : Type) (enc : TypeId × Value → H) (F : Stop.Interp) :
    ReturnsInHanded {} Tryd.checked os 7 .any ((OpenSpec.ofChange Rows.shaCutsSpec).preRow enc Tryd.prog Tryd.f7 Rows.shaCutsRow.domain false laidP) (((OpenSpec.ofChange Rows.shaCutsSpec).at F).post enc Tryd.prog Tryd.f7 false true false false) := by
  obtain ⟨places, hx⟩ := reads os enc
  refine returnsInHanded_of_row (C := Tryd.checked) (s := OpenSpec.ofChange Rows.shaCutsSpec) own started (by kernel_rfl) Tryd.func7
    (witness_row_atRef (enc := enc) (C := Tryd.checked) false (World.doorLaid Tryd.prog 400 os) #[.slice none 0 0, .int .u16 0] rfl (by kernel_rfl) (by kernel_rfl) (by kernel_rfl)
      (OpenSpec.preRow_of_cond 8 hx (by kernel_rfl) (fun k hk => by cases hk) (by kernel_rfl) (doorP_met os _))) ?_
  intro W base args ds gs before hval0 hW _ hcond hsz0 hL _ _
  have hsz : (DataW.weightsEach Tryd.prog (Tryd.f7.params.toList ++ Rows.shaCutsSpec.plain.varTypes Tryd.prog) (ds ++ gs)).all (· ≤ reachBytes) = true := hsz0
  clear hsz0
  have hval : ∀ (j : Nat) t v, Tryd.f7.params[j]? = some t → args[j]? = some v → Value.okWide Tryd.prog W .any base t v := hval0
  have hW' := hW
  obtain ⟨p, q, hA0, hV, rfl, _, _⟩ := hW
  have hA : DataW.TrodAll enc Tryd.prog W 0 (fun _ => true) true Tryd.f7.params.toList args.toList ds p := hA0
  rw [Tryd.params7] at hA hval hsz
  obtain ⟨v0, vs0, d0, ds0, p0, q0, hargs, rfl, rfl, g0, r0⟩ := trodAll_cons hA
  obtain ⟨v1, vs1, d1, ds1, p1, q1, rfl, rfl, rfl, g1, r1⟩ := trodAll_cons r0
  obtain ⟨rfl, rfl, rfl⟩ := trodAll_nil r1
  obtain rfl : args = #[v0, v1] := by cases args; simp_all
  obtain ⟨rfl, rfl⟩ := trodVars_none hV
  obtain ⟨l0, h0⟩ := open_bytes (hval 0 23 v0 rfl rfl) g0 (fun elems spare e => sized_slice hsz (j := 0) (t := 23) (e := 5) rfl (by rw [← e]; rfl) Tryd.underlying23)
  obtain ⟨a1, rfl, rfl, rfl, w1⟩ := open_int Tryd.underlying44 (hval 1 44 v1 rfl rfl) g1
  clear hA0 hval0
  have hlt := hW'.lt
  refine (walk W (tabP_of_laid hL) v0 l0 h0 a1 w1).mono fun e W' ⟨he, hb⟩ => ?_
  subst he
  have hargs : DataW.TrodAll enc Tryd.prog W' 0 (fun b => decide (b < W.heap.size)) true _ _ _ _ := (trodAll_cons_mk (Below.trod laidOut (by kernel_rfl) (of_decide_eq_true (by kernel_rfl)) g0 hb (fun x hx => hlt x (by simp [hx]))) (trodAll_cons_mk (shut_int Tryd.underlying44 w1) trodAll_mk0))
  simp only [List.append_nil] at hW' hargs
  exact ⟨_, rfl, post_law hW' (trodAll_cons_mk (shut_bool Tryd.underlying4 _) trodAll_mk0) hargs rfl hb⟩

theorem over : Rows.shaCutsRow.holds Tryd.pinned (OpenSpec.ofChange Rows.shaCutsSpec) :=
  OpenClaim.holds_of_cond 7 Tryd.f7 rfl rfl rfl rfl rfl rfl rfl ⟨rfl, rfl, rfl, rfl, rfl⟩ rfl rfl rfl rfl rfl (by kernel_rfl) Tryd.func7 (by kernel_rfl)
    (of_decide_eq_true (by kernel_rfl)) (by unfold Func.isWrapper; first | (rw [if_pos (by decide +kernel)]; kernel_rfl) | (rw [if_neg (by decide +kernel)]; exact ⟨rfl, rfl⟩))
    (fun os started H enc _ F => by rw [OpenClaim.pre_eq_preRow]; exact lifted os started H enc F)

/-- The given statement. -/
theorem proved : Rows.ShaCutsCardSaid :=
  Claim7.holds_tied_plain_at .later [] _ _ _ _
    over (fun _ h => by cases h) (by kernel_rfl) (fun _ h => by cases h) shaCuts_row_tie rfl ⟨rfl, rfl⟩ (by kernel_rfl) rfl
    (fun f fn hf hfn => by
      obtain rfl : f = 7 := Option.some.inj ((show Tryd.prog.funcNamed "reliquary/reliquarylaw03.ShaCuts" = some 7 by kernel_rfl).symm.trans hf) |>.symm
      obtain rfl : fn = Tryd.f7 := (Option.some.inj (Tryd.func7.symm.trans hfn)).symm
      exact ⟨by kernel_rfl, fun j t ht => by
        rw [Tryd.params7] at ht
        have hm : t ∈ [23, 44] := by simpa using Array.mem_of_getElem? ht
        have hall : ([23, 44].all fun u => !Tryd.prog.wantsStandIn u) = true := by kernel_rfl
        exact (show Tryd.prog.wantsStandIn t = false by simpa using List.all_eq_true.1 hall t hm)⟩)
    (by kernel_rfl)
end Go.Proofs.YtaephclooajabaaDoor.shaCuts
