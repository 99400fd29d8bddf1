/- RootNewer: of two roots of one key the one with the greater version is the newest, whichever stands first; of a right one and one that is not the right one; and the law's closed case holds. No condition. -/
import Derived.Test.YtenigdbnfepkeaaDoorRows
import Derived.Test.YtenigdbnfepkeaaDoorRtAwake
import Derived.Test.YtenigdbnfepkeaaDoorShaC
import Derived.Test.YtenigdbnfepkeaaDoorTie
import Derived.Test.YtenigdbnfepkeaaDoorCards
import Derived.SevenTiedAt
import Derived.Test.YtenigdbnfepkeaaDoorRootArg
import Derived.Test.YtenigdbnfepkeaaDoorMem
import Derived.WalkKit
import Derived.ProofKit
import Derived.OpenShut
import Derived.SizedLaws
import Derived.Carry
import Derived.Deep.DeepHandedRow
import Derived.Deep.DeepWitnessRowRef
namespace Go.Proofs.YtenigdbnfepkeaaDoor.rootNewer
open Go.ChangeShapes Go.WideShapes Go.ChangeAt Go.RowKit
open RT
theorem own : ownKnob Tryd.prog.godebug = none := by kernel_rfl
theorem cells28 : Tryd.prog.cellsOf 28 = 32 := by kernel_rfl
theorem cells5 : Tryd.prog.cellsOf 5 = 1 := by kernel_rfl
set_option linter.unusedVariables false in
set_option maxRecDepth 100000 in
set_option maxHeartbeats 4000000 in
theorem walk (w : World) (ht : TabP w) (r0 : RT.Rt) (v0 : Value) (h0 : RT.Ok r0) (p0 : RdT 33 w v0 r0.pages.length (RT.pcs r0.pages)) (k0 : r0.pages.length ≤ 3909374676536) (l1 : List Nat) (h1 : Bytes 32 l1) (a2 : Int) (w2 : (Lit.int .u16 a2).wf = true) :
    Calls Tryd.prog 9 #[.agg (RT.rtc r0 v0).toArray, .agg (row8 l1).toArray, .int .u16 a2] w fun e w' => e = .returned (.bool true) ∧ Below w.heap.size w w' := by
  obtain ⟨pa, pq, rfl, _⟩ := p0.shape
  have w2' : 0 ≤ a2 ∧ a2 ≤ 65535 := by simpa [Lit.wf, IntKind.min, IntKind.max, IntKind.signed, IntKind.bits] using w2
  obtain ⟨m, rfl⟩ : ∃ m : Nat, a2 = (m : Int) := ⟨a2.toNat, by omega⟩
  have HT := Lib.hid ht
  obtain ⟨Z0, hZ0⟩ : ∃ L, L = RT.rtc RT.zero (.slice none 0 0) := ⟨_, rfl⟩
  have hz : ∀ w, (zeroValue 27).run Tryd.prog w = .ok (.agg Z0.toArray) w := by rw [hZ0]; exact zeroRt
  have Z68 := Lib.hid (show Z0.length = 68 by rw [hZ0]; exact RT.rtc_len RT.zero_ok _)
  obtain ⟨XR, hXR⟩ : ∃ X, X = rtc r0 := ⟨_, rfl⟩
  have XL := Lib.hid (fun u => show (XR u).length = 68 by rw [hXR]; exact rtc_len h0 u)
  have XV := Lib.hid (fun u => show (XR u)[0]? = some (.int .u64 (r0.ver : Int)) by rw [hXR]; exact rtc_ver r0 u)
  have X1c := Lib.hid (fun ao n c => show ((XR (.slice ao n c)).toArray.all (·.oneCell')) = true by rw [hXR]; exact rt_one _ ao n c)
  obtain ⟨KC, hKC⟩ : ∃ X, X = row8 l1 := ⟨_, rfl⟩
  have K32 := Lib.hid (show KC.length = 32 by rw [hKC, row8_len, h1.1])
  obtain ⟨n, hn⟩ : ∃ n, n = r0.pages.length := ⟨_, rfl⟩
  obtain ⟨CS, hCS⟩ : ∃ n, n = pcs r0.pages := ⟨_, rfl⟩
  rw [← hXR, ← hKC]
  have P0 := p0
  rw [← hn, ← hCS] at P0
  rw [← hn]
  obtain ⟨w1, hw1⟩ : ∃ x, x = (w.alloc (.cells (XR (.slice pa n pq)).toArray 27)).alloc (.cells KC.toArray 28) := ⟨_, rfl⟩
  have W1 := Lib.hid (show Below w.heap.size w w1 by rw [hw1]; exact ((Below.refl w.heap.size w).alloc (Nat.le_refl _) _).alloc (by simp) _)
  have X1 := Lib.hid (show Blk w1 w.heap.size 27 (XR (.slice pa n pq)) by rw [hw1]; exact (Blk.new w 27 _ _ rfl).alloc _)
  have K1 := Lib.hid (show Blk w1 (w.heap.size + 1) 28 KC by rw [hw1]; exact Blk.new _ 28 KC _ (by simp))
  have V1 := Lib.hid (P0.below W1.out)
  have VW := Lib.hid P0
  have a0 : IntKind.u64.wrap (m : Int) = (m : Int) := by rw [IntKind.wrap_u64]; omega
  have a1 : IntKind.u64.wrap (18446744073709551615 - (m : Int)) = 18446744073709551615 - (m : Int) := by rw [IntKind.wrap_u64]; omega
  obtain ⟨ver, hver⟩ : ∃ x, x = r0.ver := ⟨_, rfl⟩
  rw [← hver] at XV
  have HR0 := Lib.hid h0
  have HK := Lib.hid h1
  have K0 := Lib.hid k0
  have HVER := Lib.hid hver
  have HXR := Lib.hid hXR
  have HKC := Lib.hid hKC
  have HN := Lib.hid hn
  have HCS := Lib.hid hCS
  clear hZ0 hXR hKC hn hCS p0 P0 ht h0 h1 w2 w2' hver k0
  go_enter Tryd.func9, Tryd.ntmps9
  go_upto_region 1 with fail
  rw [← hw1]
  clear hw1
  go_upto_region 2 with (first
    | ((with_reducible show wpList _ _ _ (Oper.mk _ (.load _ (.tmp 3)) _ _ _ _ :: _) _ _); refine wpList_load_mid rfl 27 (.tmp 3) rfl w.heap.size 0 rfl (XR (.slice pa n pq)) _ X1.out.range Tryd.underlying27 rfl (by rw [XL.out]; exact infoRtC) ?_)
    | ((with_reducible show wpList _ _ _ (Oper.mk _ (.store _ (.tmp 7) (.tmp 25)) _ _ _ _ :: _) _ _); refine wpList_store_blk rfl 27 (.tmp 7) (.tmp 25) rfl w1.heap.size 0 (XR (.slice pa n pq)) rfl rfl 27 Z0 (Blk.new w1 27 Z0 _ rfl) (by have := XL.out (.slice pa n pq); have := Z68.out; omega) (by rw [XL.out (.slice pa n pq)]; exact infoRtC) (X1c.out _ _ _) ?_; intro w2 b' g'; rw [splice_all _ _ (by have := XL.out (.slice pa n pq); have := Z68.out; omega)] at b'; have bb := alloc_turn (Below.refl _ _) g'; have W2 := Lib.hid (W1.out.on bb); have X2 := Lib.hid (X1.out.below bb X1.out.lt); have K2 := Lib.hid (K1.out.below bb K1.out.lt); have V2 := Lib.hid (V1.out.below bb); have Y2 := Lib.hid b'; clear b' g' bb))
  obtain ⟨nb, hnb⟩ : ∃ x, x = w1.heap.size := ⟨_, rfl⟩
  have NBL := Lib.hid (show w.heap.size + 1 < nb by rw [hnb]; exact K1.out.lt)
  rw [← hnb] at Y2 ⊢
  clear hnb W1 X1 K1 V1
  have c0 := X2.out.cell 0 _ (XV.out _)
  have d0 := Y2.out.cell 0 _ (XV.out _)
  by_cases hgt : 18446744073709551615 - (m : Int) < (ver : Int)
  · go_wp2_with (go_at_call 14; (with_reducible refine (rtawake_any _ (HT.out.below W2.out)).mono ?_); rintro e w3 ⟨rfl, b9⟩; have W3 := Lib.hid (W2.out.on b9); clear b9)
    go_ret
    exact ⟨rfl, W3.out⟩
  · have a2 : IntKind.u64.wrap ((ver : Int) + (m : Int)) = ((ver + m : Nat) : Int) := by rw [IntKind.wrap_u64]; omega
    obtain ⟨N, hN⟩ : ∃ N : Rt, N = { r0 with ver := ver + m } := ⟨_, rfl⟩
    have NOK := Lib.hid (show Ok N by
      have q := HR0.out
      rw [hN]; exact ⟨by show ver + m < 18446744073709551616; omega, q.sup, q.area, q.keys, q.len, q.pages⟩)
    have NPG := Lib.hid (show N.pages = r0.pages ∧ may N = may r0 ∧ N.ver = r0.ver + m from ⟨by rw [hN], by rw [hN]; rfl, by rw [hN, ← HVER.out]⟩)
    obtain ⟨NR, hNR⟩ : ∃ X, X = rtc N := ⟨_, rfl⟩
    have NL := Lib.hid (fun u => show (NR u).length = 68 by rw [hNR]; exact rtc_len NOK.out u)
    have N1c := Lib.hid (fun ao n c => show ((NR (.slice ao n c)).toArray.all (·.oneCell')) = true by rw [hNR]; exact rt_one _ ao n c)
    have NST := Lib.hid (fun u => show (XR u).set 0 (.int .u64 ((ver + m : Nat) : Int)) = NR u by rw [hNR, hN, HXR.out]; exact rtc_set0 r0 u _)
    have HNR := Lib.hid hNR
    have hNeq := Lib.hid (show N = { r0 with ver := r0.ver + m } by rw [hN, HVER.out])
    have WL := Lib.hid (show w.heap.size ≤ nb by have := NBL.out; omega)
    clear hNR hN
    go_upto_region 5 with (refine wpList_put1R rfl 22 (.tmp 38) (.tmp 37) rfl nb 0 (.int .u64 ((ver + m : Nat) : Int)) rfl rfl 27 (XR (.slice pa n pq)) Y2.out (by rw [XL.out]; decide) infoU641 rfl rfl ?_; intro w3 b' g'; rw [NST.out] at b'; have Y3 := Lib.hid b'; have W3 := Lib.hid (W2.out.grown g' W2.out.size (fun q e => by have := WL.out; have := Option.some.inj e; omega)); have X3 := Lib.hid (X2.out.grown g' (fun e => by have := NBL.out; have := Option.some.inj e; omega)); have K3 := Lib.hid (K2.out.grown g' (fun e => by have := NBL.out; have := Option.some.inj e; omega)); have V3 := Lib.hid (show RdT 33 w3 (.slice pa n pq) n CS from VW.out.below W3.out); clear b' g')
    clear W2 X2 K2 V2 Y2 c0 d0 hgt
    have HP := Lib.hid (fun W hv (hW : TabP W) => pput_any r0 HR0.out (.slice pa n pq) W hv (by have := K0.out; omega) l1 HK.out hW)
    have HQ := Lib.hid (fun W hv (hW : TabP W) => pput_any N NOK.out (.slice pa n pq) W hv (by rw [NPG.out.1]; have := K0.out; omega) l1 HK.out hW)
    rw [← HXR.out, ← HKC.out, ← HN.out, ← HCS.out] at HP
    rw [NPG.out.1, ← HNR.out, ← HKC.out, ← HN.out, ← HCS.out] at HQ
    cases hm : may r0 with
    | false =>
      have q1 := put_no hm l1
      have q2 := put_no (show may N = false by rw [NPG.out.2.1]; exact hm) l1
      rw [q1.2] at HP
      rw [q2.2] at HQ
      clear q1 q2 hm
      go_wp2_with ((fail_if_success (with_reducible show bodyPost _ _ _ _ _ _)); first
        | ((with_reducible show wpList _ _ _ (Oper.mk _ (.load _ (.tmp 3)) _ _ _ _ :: _) _ _); refine wpList_load_mid rfl 27 (.tmp 3) rfl w.heap.size 0 rfl (XR (.slice pa n pq)) _ X3.out.range Tryd.underlying27 rfl (by rw [XL.out]; exact infoRtC) ?_)
        | ((with_reducible show wpList _ _ _ (Oper.mk _ (.load _ (.tmp 4)) _ _ _ _ :: _) _ _); refine wpList_load_mid rfl 28 (.tmp 4) rfl (w.heap.size + 1) 0 rfl KC _ K3.out.range Tryd.underlying28 rfl (by rw [K32.out]; exact infoKeyA) ?_)
        | (go_at_call 11; (with_reducible refine (HP.out _ V3.out (HT.out.below W3.out)).mono ?_); rintro e w4 ⟨ua, rfl, o9, b9⟩; have W4 := Lib.hid (W3.out.on b9); have X4 := Lib.hid (X3.out.below b9 X3.out.lt); have K4 := Lib.hid (K3.out.below b9 K3.out.lt); have V4 := Lib.hid (V3.out.below b9); have Y4 := Lib.hid (Y3.out.below b9 Y3.out.lt); have A4 := Lib.hid o9.rd; obtain ⟨aa, ac, rfl, _⟩ := o9.rd.shape; clear o9; clear b9)
        | ((with_reducible show wpList _ _ _ (Oper.mk _ (.load _ (.tmp 7)) _ _ _ _ :: _) _ _); refine wpList_load_mid rfl 27 (.tmp 7) rfl nb 0 rfl (NR (.slice pa n pq)) _ Y4.out.range Tryd.underlying27 rfl (by rw [NL.out]; exact infoRtC) ?_)
        | ((with_reducible show wpList _ _ _ (Oper.mk _ (.load _ (.tmp 4)) _ _ _ _ :: _) _ _); refine wpList_load_mid rfl 28 (.tmp 4) rfl (w.heap.size + 1) 0 rfl KC _ K4.out.range Tryd.underlying28 rfl (by rw [K32.out]; exact infoKeyA) ?_)
        | (go_at_call 11; (with_reducible refine (HQ.out _ V4.out (HT.out.below W4.out)).mono ?_); rintro e w5 ⟨ub, rfl, o9, b9⟩; have W5 := Lib.hid (W4.out.on b9); have X5 := Lib.hid (X4.out.below b9 X4.out.lt); have K5 := Lib.hid (K4.out.below b9 K4.out.lt); have V5 := Lib.hid (V4.out.below b9); have Y5 := Lib.hid (Y4.out.below b9 Y4.out.lt); have A5 := Lib.hid (A4.out.below b9); have B5 := Lib.hid o9.rd; obtain ⟨ba, bc, rfl, _⟩ := o9.rd.shape; clear o9; clear b9)
        | (go_at_call 14; (with_reducible refine (rtawake_any _ (HT.out.below W5.out)).mono ?_); rintro e w6 ⟨rfl, b9⟩; have W6 := Lib.hid (W5.out.on b9); have X6 := Lib.hid (X5.out.below b9 X5.out.lt); have K6 := Lib.hid (K5.out.below b9 K5.out.lt); have V6 := Lib.hid (V5.out.below b9); have Y6 := Lib.hid (Y5.out.below b9 Y5.out.lt); have A6 := Lib.hid (A5.out.below b9); have B6 := Lib.hid (B5.out.below b9); clear b9))
      go_ret
      exact ⟨rfl, W6.out⟩
    | true =>
      have hmn : may N = true := by rw [NPG.out.2.1]; exact hm
      have q1 := put_yes hm l1
      have q2 := put_yes hmn l1
      rw [q1.1, q1.2] at HP
      rw [q2.1, q2.2] at HQ
      have L1 := Lib.hid (lay_bytes HR0.out hm l1).1
      have L2 := Lib.hid (lay_bytes NOK.out hmn l1).1
      have NW1 := Lib.hid (nw_up HR0.out hm NOK.out hmn l1 m NPG.out.2.2 hNeq.out)
      have NW2 := Lib.hid (nw_down HR0.out hm NOK.out hmn l1 (by rw [NPG.out.2.2]; omega))
      have NW3 := Lib.hid (nw_one HR0.out hm l1)
      have NW4 := Lib.hid (nw_none l1)
      have HNW := Lib.hid (fun x y W u v hu hv (hW : TabP W) => pnewest_any x y l1 HK.out u v W hu hv hW)
      rw [← HKC.out] at HNW
      have HN1 := Lib.hid (fun W u v hu hv hW => HNW.out (lay r0 l1) (lay N l1) W u v hu hv hW)
      rw [NW1.out.1, NW1.out.2.1, NW1.out.2.2] at HN1
      have HN2 := Lib.hid (fun W u v hu hv hW => HNW.out (lay N l1) (lay r0 l1) W u v hu hv hW)
      rw [NW2.out.1, NW2.out.2.1, NW2.out.2.2] at HN2
      have HN3 := Lib.hid (fun W v hv hW => HNW.out [] (lay r0 l1) W (.slice none 0 0) v (Rd.none_ W) hv hW)
      rw [NW3.out.1, NW3.out.2.1, NW3.out.2.2] at HN3
      have HN4 := Lib.hid (fun W hW => HNW.out [] [] W (.slice none 0 0) (.slice none 0 0) (Rd.none_ W) (Rd.none_ W) hW)
      rw [NW4.out.1, NW4.out.2.1, NW4.out.2.2] at HN4
      rw [NPG.out.1, ← HNR.out, ← HN.out, ← HCS.out] at HN1 HN2
      rw [← HXR.out, ← HN.out, ← HCS.out] at HN3
      have HS1 := Lib.hid (fun W u v hu hv => sameYes (psame_any N N NOK.out NOK.out u v W hu hv (by rw [NPG.out.1]; have := K0.out; omega)))
      have HS3 := Lib.hid (fun W u v hu hv => sameYes (psame_any r0 r0 HR0.out HR0.out u v W hu hv (by have := K0.out; omega)))
      rw [NPG.out.1, ← HNR.out, ← HN.out, ← HCS.out] at HS1
      rw [← HXR.out, ← HN.out, ← HCS.out] at HS3
      have ZRL := Lib.hid (fun u => rtc_len zero_ok u)
      obtain ⟨LA, hLA⟩ : ∃ x, x = lay r0 l1 := ⟨_, rfl⟩
      obtain ⟨LB, hLB⟩ : ∃ x, x = lay N l1 := ⟨_, rfl⟩
      obtain ⟨ZR, hZR⟩ : ∃ x, x = rtc zero := ⟨_, rfl⟩
      have ZR1 := Lib.hid (fun ao n c => show ((ZR (.slice ao n c)).toArray.all (·.oneCell')) = true by rw [hZR]; exact rt_one _ ao n c)
      rw [← hLA] at HP L1 HN1 HN2 HN3
      rw [← hLB] at HQ L2 HN1 HN2
      rw [← hZR] at HN4 ZRL
      obtain ⟨F, hF⟩ : ∃ F : Int, F = if m = 0 then 0 else 1 := ⟨_, rfl⟩
      rw [← hF] at HN1
      have HF := Lib.hid hF
      clear hLA hLB hZR q1 q2 hm hmn NW1 NW2 NW3 NW4 HNW hF
      go_upto_region 9 with (first
        | ((with_reducible show wpList _ _ _ (Oper.mk _ (.load _ (.tmp 3)) _ _ _ _ :: _) _ _); refine wpList_load_mid rfl 27 (.tmp 3) rfl w.heap.size 0 rfl (XR (.slice pa n pq)) _ X3.out.range Tryd.underlying27 rfl (by rw [XL.out]; exact infoRtC) ?_)
        | ((with_reducible show wpList _ _ _ (Oper.mk _ (.load _ (.tmp 4)) _ _ _ _ :: _) _ _); refine wpList_load_mid rfl 28 (.tmp 4) rfl (w.heap.size + 1) 0 rfl KC _ K3.out.range Tryd.underlying28 rfl (by rw [K32.out]; exact infoKeyA) ?_)
        | (go_at_call 11; (with_reducible refine (HP.out _ V3.out (HT.out.below W3.out)).mono ?_); rintro e w4 ⟨ua, rfl, o9, b9⟩; have W4 := Lib.hid (W3.out.on b9); have X4 := Lib.hid (X3.out.below b9 X3.out.lt); have K4 := Lib.hid (K3.out.below b9 K3.out.lt); have V4 := Lib.hid (V3.out.below b9); have Y4 := Lib.hid (Y3.out.below b9 Y3.out.lt); have A4 := Lib.hid o9.rd; obtain ⟨aa, ac, rfl, _⟩ := o9.rd.shape; rw [L1.out] at A4 ⊢; clear o9; clear b9)
        | ((with_reducible show wpList _ _ _ (Oper.mk _ (.load _ (.tmp 7)) _ _ _ _ :: _) _ _); refine wpList_load_mid rfl 27 (.tmp 7) rfl nb 0 rfl (NR (.slice pa n pq)) _ Y4.out.range Tryd.underlying27 rfl (by rw [NL.out]; exact infoRtC) ?_)
        | ((with_reducible show wpList _ _ _ (Oper.mk _ (.load _ (.tmp 4)) _ _ _ _ :: _) _ _); refine wpList_load_mid rfl 28 (.tmp 4) rfl (w.heap.size + 1) 0 rfl KC _ K4.out.range Tryd.underlying28 rfl (by rw [K32.out]; exact infoKeyA) ?_)
        | (go_at_call 11; (with_reducible refine (HQ.out _ V4.out (HT.out.below W4.out)).mono ?_); rintro e w5 ⟨ub, rfl, o9, b9⟩; have W5 := Lib.hid (W4.out.on b9); have X5 := Lib.hid (X4.out.below b9 X4.out.lt); have K5 := Lib.hid (K4.out.below b9 K4.out.lt); have V5 := Lib.hid (V4.out.below b9); have Y5 := Lib.hid (Y4.out.below b9 Y4.out.lt); have A5 := Lib.hid (A4.out.below b9); have B5 := Lib.hid o9.rd; obtain ⟨ba, bc, rfl, _⟩ := o9.rd.shape; rw [L2.out] at B5 ⊢; clear o9; clear b9))
      clear W3 X3 K3 V3 Y3 W4 X4 K4 V4 Y4 A4 HP HQ
      go_upto_region 10 with (first
        | ((with_reducible show wpList _ _ _ (Oper.mk _ (.load _ (.tmp 4)) _ _ _ _ :: _) _ _); refine wpList_load_mid rfl 28 (.tmp 4) rfl (w.heap.size + 1) 0 rfl KC _ K5.out.range Tryd.underlying28 rfl (by rw [K32.out]; exact infoKeyA) ?_)
        | (go_at_call 17; (with_reducible refine (HN1.out _ _ _ A5.out B5.out (HT.out.below W5.out)).mono ?_); rintro e w6 ⟨ca, rfl, da, b9⟩; have W6 := Lib.hid (W5.out.on b9); have X6 := Lib.hid (X5.out.below b9 X5.out.lt); have K6 := Lib.hid (K5.out.below b9 K5.out.lt); have V6 := Lib.hid (V5.out.below b9); have Y6 := Lib.hid (Y5.out.below b9 Y5.out.lt); have A6 := Lib.hid (A5.out.below b9); have B6 := Lib.hid (B5.out.below b9); obtain ⟨xa, qa, rfl, _⟩ := (owned_rd da).shape; have P6 := Lib.hid (owned_rd da); clear da; clear b9)
        | ((with_reducible show wpList _ _ _ (Oper.mk _ (.store _ (.tmp 12) (.tmp 72)) _ _ _ _ :: _) _ _); refine wpList_store_blk rfl 27 (.tmp 12) (.tmp 72) rfl w6.heap.size 0 (NR (.slice xa n qa)) rfl rfl 27 Z0 (Blk.new w6 27 Z0 _ rfl) (by have := NL.out (.slice xa n qa); have := Z68.out; omega) (by rw [NL.out (.slice xa n qa)]; exact infoRtC) (N1c.out _ _ _) ?_; intro w7 b' g'; rw [splice_all _ _ (by have := NL.out (.slice xa n qa); have := Z68.out; omega)] at b'; have bb := alloc_turn (Below.refl _ _) g'; have W7 := Lib.hid (W6.out.on bb); have X7 := Lib.hid (X6.out.below bb X6.out.lt); have K7 := Lib.hid (K6.out.below bb K6.out.lt); have V7 := Lib.hid (V6.out.below bb); have Y7 := Lib.hid (Y6.out.below bb Y6.out.lt); have A7 := Lib.hid (A6.out.below bb); have B7 := Lib.hid (B6.out.below bb); have P7 := Lib.hid (P6.out.below bb); have C7 := Lib.hid b'; clear b' g' bb))
      obtain ⟨ka, hka⟩ : ∃ x, x = w6.heap.size := ⟨_, rfl⟩
      rw [← hka] at C7 ⊢
      clear hka W5 X5 K5 V5 Y5 A5 B5 W6 X6 K6 V6 Y6 A6 B6 P6
      go_upto_region 11 with (first
        | ((with_reducible show wpList _ _ _ (Oper.mk _ (.load _ (.tmp 4)) _ _ _ _ :: _) _ _); refine wpList_load_mid rfl 28 (.tmp 4) rfl (w.heap.size + 1) 0 rfl KC _ K7.out.range Tryd.underlying28 rfl (by rw [K32.out]; exact infoKeyA) ?_)
        | (go_at_call 17; (with_reducible refine (HN2.out _ _ _ B7.out A7.out (HT.out.below W7.out)).mono ?_); rintro e w8 ⟨cb, rfl, db, b9⟩; have W8 := Lib.hid (W7.out.on b9); have X8 := Lib.hid (X7.out.below b9 X7.out.lt); have K8 := Lib.hid (K7.out.below b9 K7.out.lt); have V8 := Lib.hid (V7.out.below b9); have Y8 := Lib.hid (Y7.out.below b9 Y7.out.lt); have A8 := Lib.hid (A7.out.below b9); have B8 := Lib.hid (B7.out.below b9); have P8 := Lib.hid (P7.out.below b9); have C8 := Lib.hid (C7.out.below b9 C7.out.lt); obtain ⟨xb, qb, rfl, _⟩ := (owned_rd db).shape; have Q8 := Lib.hid (owned_rd db); clear db; clear b9)
        | ((with_reducible show wpList _ _ _ (Oper.mk _ (.store _ (.tmp 15) (.tmp 80)) _ _ _ _ :: _) _ _); refine wpList_store_blk rfl 27 (.tmp 15) (.tmp 80) rfl w8.heap.size 0 (NR (.slice xb n qb)) rfl rfl 27 Z0 (Blk.new w8 27 Z0 _ rfl) (by have := NL.out (.slice xb n qb); have := Z68.out; omega) (by rw [NL.out (.slice xb n qb)]; exact infoRtC) (N1c.out _ _ _) ?_; intro w9 b' g'; rw [splice_all _ _ (by have := NL.out (.slice xb n qb); have := Z68.out; omega)] at b'; have bb := alloc_turn (Below.refl _ _) g'; have W9 := Lib.hid (W8.out.on bb); have X9 := Lib.hid (X8.out.below bb X8.out.lt); have K9 := Lib.hid (K8.out.below bb K8.out.lt); have V9 := Lib.hid (V8.out.below bb); have Y9 := Lib.hid (Y8.out.below bb Y8.out.lt); have A9 := Lib.hid (A8.out.below bb); have B9 := Lib.hid (B8.out.below bb); have P9 := Lib.hid (P8.out.below bb); have C9 := Lib.hid (C8.out.below bb C8.out.lt); have Q9 := Lib.hid (Q8.out.below bb); have D9 := Lib.hid b'; clear b' g' bb))
      obtain ⟨kb, hkb⟩ : ∃ x, x = w8.heap.size := ⟨_, rfl⟩
      rw [← hkb] at D9 ⊢
      clear hkb W7 X7 K7 V7 Y7 A7 B7 P7 C7 W8 X8 K8 V8 Y8 A8 B8 P8 C8 Q8
      go_upto_region 12 with (first
        | ((with_reducible show wpList _ _ _ (Oper.mk _ (.load _ (.tmp 4)) _ _ _ _ :: _) _ _); refine wpList_load_mid rfl 28 (.tmp 4) rfl (w.heap.size + 1) 0 rfl KC _ K9.out.range Tryd.underlying28 rfl (by rw [K32.out]; exact infoKeyA) ?_)
        | (go_at_call 17; (with_reducible refine (HN3.out _ _ A9.out (HT.out.below W9.out)).mono ?_); rintro e w10 ⟨cc, rfl, dc, b9⟩; have W10 := Lib.hid (W9.out.on b9); have X10 := Lib.hid (X9.out.below b9 X9.out.lt); have K10 := Lib.hid (K9.out.below b9 K9.out.lt); have V10 := Lib.hid (V9.out.below b9); have Y10 := Lib.hid (Y9.out.below b9 Y9.out.lt); have A10 := Lib.hid (A9.out.below b9); have B10 := Lib.hid (B9.out.below b9); have P10 := Lib.hid (P9.out.below b9); have C10 := Lib.hid (C9.out.below b9 C9.out.lt); have Q10 := Lib.hid (Q9.out.below b9); have D10 := Lib.hid (D9.out.below b9 D9.out.lt); obtain ⟨xc, qc, rfl, _⟩ := (owned_rd dc).shape; have R10 := Lib.hid (owned_rd dc); clear dc; clear b9)
        | ((with_reducible show wpList _ _ _ (Oper.mk _ (.store _ (.tmp 18) (.tmp 87)) _ _ _ _ :: _) _ _); refine wpList_store_blk rfl 27 (.tmp 18) (.tmp 87) rfl w10.heap.size 0 (XR (.slice xc n qc)) rfl rfl 27 Z0 (Blk.new w10 27 Z0 _ rfl) (by have := XL.out (.slice xc n qc); have := Z68.out; omega) (by rw [XL.out (.slice xc n qc)]; exact infoRtC) (X1c.out _ _ _) ?_; intro w11 b' g'; rw [splice_all _ _ (by have := XL.out (.slice xc n qc); have := Z68.out; omega)] at b'; have bb := alloc_turn (Below.refl _ _) g'; have W11 := Lib.hid (W10.out.on bb); have X11 := Lib.hid (X10.out.below bb X10.out.lt); have K11 := Lib.hid (K10.out.below bb K10.out.lt); have V11 := Lib.hid (V10.out.below bb); have Y11 := Lib.hid (Y10.out.below bb Y10.out.lt); have A11 := Lib.hid (A10.out.below bb); have B11 := Lib.hid (B10.out.below bb); have P11 := Lib.hid (P10.out.below bb); have C11 := Lib.hid (C10.out.below bb C10.out.lt); have Q11 := Lib.hid (Q10.out.below bb); have D11 := Lib.hid (D10.out.below bb D10.out.lt); have R11 := Lib.hid (R10.out.below bb); have E11 := Lib.hid b'; clear b' g' bb))
      obtain ⟨kc, hkc⟩ : ∃ x, x = w10.heap.size := ⟨_, rfl⟩
      rw [← hkc] at E11 ⊢
      clear hkc W9 X9 K9 V9 Y9 A9 B9 P9 C9 Q9 D9 W10 X10 K10 V10 Y10 A10 B10 P10 C10 Q10 D10 R10
      go_upto_region 13 with (first
        | ((with_reducible show wpList _ _ _ (Oper.mk _ (.load _ (.tmp 4)) _ _ _ _ :: _) _ _); refine wpList_load_mid rfl 28 (.tmp 4) rfl (w.heap.size + 1) 0 rfl KC _ K11.out.range Tryd.underlying28 rfl (by rw [K32.out]; exact infoKeyA) ?_)
        | (go_at_call 17; (with_reducible refine (HN4.out _ (HT.out.below W11.out)).mono ?_); rintro e w12 ⟨cd, rfl, dd, b9⟩; have W12 := Lib.hid (W11.out.on b9); have X12 := Lib.hid (X11.out.below b9 X11.out.lt); have K12 := Lib.hid (K11.out.below b9 K11.out.lt); have V12 := Lib.hid (V11.out.below b9); have Y12 := Lib.hid (Y11.out.below b9 Y11.out.lt); have A12 := Lib.hid (A11.out.below b9); have B12 := Lib.hid (B11.out.below b9); have P12 := Lib.hid (P11.out.below b9); have C12 := Lib.hid (C11.out.below b9 C11.out.lt); have Q12 := Lib.hid (Q11.out.below b9); have D12 := Lib.hid (D11.out.below b9 D11.out.lt); have R12 := Lib.hid (R11.out.below b9); have E12 := Lib.hid (E11.out.below b9 E11.out.lt); obtain ⟨xd, qd, rfl, _⟩ := (owned_rd dd).shape; have T12 := Lib.hid (owned_rd dd); clear dd; clear b9)
        | ((with_reducible show wpList _ _ _ (Oper.mk _ (.store _ (.tmp 21) (.tmp 93)) _ _ _ _ :: _) _ _); refine wpList_store_blk rfl 27 (.tmp 21) (.tmp 93) rfl w12.heap.size 0 (ZR (.slice xd zero.pages.length qd)) rfl rfl 27 Z0 (Blk.new w12 27 Z0 _ rfl) (by have := ZRL.out (.slice xd zero.pages.length qd); have := Z68.out; omega) (by rw [ZRL.out (.slice xd zero.pages.length qd)]; exact infoRtC) (ZR1.out _ _ _) ?_; intro w13 b' g'; rw [splice_all _ _ (by have := ZRL.out (.slice xd zero.pages.length qd); have := Z68.out; omega)] at b'; have bb := alloc_turn (Below.refl _ _) g'; have W13 := Lib.hid (W12.out.on bb); have X13 := Lib.hid (X12.out.below bb X12.out.lt); have K13 := Lib.hid (K12.out.below bb K12.out.lt); have V13 := Lib.hid (V12.out.below bb); have Y13 := Lib.hid (Y12.out.below bb Y12.out.lt); have A13 := Lib.hid (A12.out.below bb); have B13 := Lib.hid (B12.out.below bb); have P13 := Lib.hid (P12.out.below bb); have C13 := Lib.hid (C12.out.below bb C12.out.lt); have Q13 := Lib.hid (Q12.out.below bb); have D13 := Lib.hid (D12.out.below bb D12.out.lt); have R13 := Lib.hid (R12.out.below bb); have E13 := Lib.hid (E12.out.below bb E12.out.lt); have T13 := Lib.hid (T12.out.below bb); have G13 := Lib.hid b'; clear b' g' bb))
      obtain ⟨kd, hkd⟩ : ∃ x, x = w12.heap.size := ⟨_, rfl⟩
      rw [← hkd] at G13 ⊢
      clear hkd W11 X11 K11 V11 Y11 A11 B11 P11 C11 Q11 D11 R11 E11 W12 X12 K12 V12 Y12 A12 B12 P12 C12 Q12 D12 R12 E12 T12
      by_cases hm0 : m = 0
      · have hF := HF.out
        rw [if_pos hm0] at hF
        subst hF
        subst hm0
        go_wp2_with ((fail_if_success (with_reducible show bodyPost _ _ _ _ _ _)); first
          | ((with_reducible show wpList _ _ _ (Oper.mk _ (.load _ (.tmp 12)) _ _ _ _ :: _) _ _); refine wpList_loadW 27 (.tmp 12) rfl ka 0 rfl (NR (.slice xa n qa)) _ C13.out.range Tryd.underlying27 rfl (by rw [NL.out]; exact infoRtC) rfl ?_)
          | ((with_reducible show wpList _ _ _ (Oper.mk _ (.load _ (.tmp 7)) _ _ _ _ :: _) _ _); refine wpList_loadW 27 (.tmp 7) rfl nb 0 rfl (NR (.slice pa n pq)) _ Y13.out.range Tryd.underlying27 rfl (by rw [NL.out]; exact infoRtC) rfl ?_)
          | (go_at_call 19; (with_reducible refine ((HS1.out _ _ _ P13.out V13.out)).mono ?_); rintro e w14 ⟨rfl, b9⟩; have W14 := Lib.hid (W13.out.on b9); have X14 := Lib.hid (X13.out.below b9 X13.out.lt); have K14 := Lib.hid (K13.out.below b9 K13.out.lt); have V14 := Lib.hid (V13.out.below b9); have Y14 := Lib.hid (Y13.out.below b9 Y13.out.lt); have A14 := Lib.hid (A13.out.below b9); have B14 := Lib.hid (B13.out.below b9); have P14 := Lib.hid (P13.out.below b9); have C14 := Lib.hid (C13.out.below b9 C13.out.lt); have Q14 := Lib.hid (Q13.out.below b9); have D14 := Lib.hid (D13.out.below b9 D13.out.lt); have R14 := Lib.hid (R13.out.below b9); have E14 := Lib.hid (E13.out.below b9 E13.out.lt); have T14 := Lib.hid (T13.out.below b9); have G14 := Lib.hid (G13.out.below b9 G13.out.lt); clear b9)
          | ((with_reducible show wpList _ _ _ (Oper.mk _ (.load _ (.tmp 15)) _ _ _ _ :: _) _ _); refine wpList_loadW 27 (.tmp 15) rfl kb 0 rfl (NR (.slice xb n qb)) _ D14.out.range Tryd.underlying27 rfl (by rw [NL.out]; exact infoRtC) rfl ?_)
          | ((with_reducible show wpList _ _ _ (Oper.mk _ (.load _ (.tmp 7)) _ _ _ _ :: _) _ _); refine wpList_loadW 27 (.tmp 7) rfl nb 0 rfl (NR (.slice pa n pq)) _ Y14.out.range Tryd.underlying27 rfl (by rw [NL.out]; exact infoRtC) rfl ?_)
          | (go_at_call 19; (with_reducible refine ((HS1.out _ _ _ Q14.out V14.out)).mono ?_); rintro e w15 ⟨rfl, b9⟩; have W15 := Lib.hid (W14.out.on b9); have X15 := Lib.hid (X14.out.below b9 X14.out.lt); have K15 := Lib.hid (K14.out.below b9 K14.out.lt); have V15 := Lib.hid (V14.out.below b9); have Y15 := Lib.hid (Y14.out.below b9 Y14.out.lt); have A15 := Lib.hid (A14.out.below b9); have B15 := Lib.hid (B14.out.below b9); have P15 := Lib.hid (P14.out.below b9); have C15 := Lib.hid (C14.out.below b9 C14.out.lt); have Q15 := Lib.hid (Q14.out.below b9); have D15 := Lib.hid (D14.out.below b9 D14.out.lt); have R15 := Lib.hid (R14.out.below b9); have E15 := Lib.hid (E14.out.below b9 E14.out.lt); have T15 := Lib.hid (T14.out.below b9); have G15 := Lib.hid (G14.out.below b9 G14.out.lt); clear b9)
          | ((with_reducible show wpList _ _ _ (Oper.mk _ (.load _ (.tmp 18)) _ _ _ _ :: _) _ _); refine wpList_loadW 27 (.tmp 18) rfl kc 0 rfl (XR (.slice xc n qc)) _ E15.out.range Tryd.underlying27 rfl (by rw [XL.out]; exact infoRtC) rfl ?_)
          | ((with_reducible show wpList _ _ _ (Oper.mk _ (.load _ (.tmp 3)) _ _ _ _ :: _) _ _); refine wpList_loadW 27 (.tmp 3) rfl w.heap.size 0 rfl (XR (.slice pa n pq)) _ X15.out.range Tryd.underlying27 rfl (by rw [XL.out]; exact infoRtC) rfl ?_)
          | (go_at_call 19; (with_reducible refine ((HS3.out _ _ _ R15.out V15.out)).mono ?_); rintro e w16 ⟨rfl, b9⟩; have W16 := Lib.hid (W15.out.on b9); have X16 := Lib.hid (X15.out.below b9 X15.out.lt); have K16 := Lib.hid (K15.out.below b9 K15.out.lt); have V16 := Lib.hid (V15.out.below b9); have Y16 := Lib.hid (Y15.out.below b9 Y15.out.lt); have A16 := Lib.hid (A15.out.below b9); have B16 := Lib.hid (B15.out.below b9); have P16 := Lib.hid (P15.out.below b9); have C16 := Lib.hid (C15.out.below b9 C15.out.lt); have Q16 := Lib.hid (Q15.out.below b9); have D16 := Lib.hid (D15.out.below b9 D15.out.lt); have R16 := Lib.hid (R15.out.below b9); have E16 := Lib.hid (E15.out.below b9 E15.out.lt); have T16 := Lib.hid (T15.out.below b9); have G16 := Lib.hid (G15.out.below b9 G15.out.lt); clear b9)
          | (go_at_call 14; (with_reducible refine (rtawake_any _ (HT.out.below W16.out)).mono ?_); rintro e w17 ⟨rfl, b9⟩; have W17 := Lib.hid (W16.out.on b9); have X17 := Lib.hid (X16.out.below b9 X16.out.lt); have K17 := Lib.hid (K16.out.below b9 K16.out.lt); have V17 := Lib.hid (V16.out.below b9); have Y17 := Lib.hid (Y16.out.below b9 Y16.out.lt); have A17 := Lib.hid (A16.out.below b9); have B17 := Lib.hid (B16.out.below b9); have P17 := Lib.hid (P16.out.below b9); have C17 := Lib.hid (C16.out.below b9 C16.out.lt); have Q17 := Lib.hid (Q16.out.below b9); have D17 := Lib.hid (D16.out.below b9 D16.out.lt); have R17 := Lib.hid (R16.out.below b9); have E17 := Lib.hid (E16.out.below b9 E16.out.lt); have T17 := Lib.hid (T16.out.below b9); have G17 := Lib.hid (G16.out.below b9 G16.out.lt); clear b9))
        go_ret
        exact ⟨rfl, W17.out⟩
      · have hF := HF.out
        rw [if_neg hm0] at hF
        subst hF
        have e1 : ((m : Int) == 0) = false := by rw [beq_eq_false_iff_ne]; omega
        have e2 : ¬ (m : Int) = 0 := by omega
        clear hm0
        go_wp2_with ((fail_if_success (with_reducible show bodyPost _ _ _ _ _ _)); first
          | ((with_reducible show wpList _ _ _ (Oper.mk _ (.load _ (.tmp 12)) _ _ _ _ :: _) _ _); refine wpList_loadW 27 (.tmp 12) rfl ka 0 rfl (NR (.slice xa n qa)) _ C13.out.range Tryd.underlying27 rfl (by rw [NL.out]; exact infoRtC) rfl ?_)
          | ((with_reducible show wpList _ _ _ (Oper.mk _ (.load _ (.tmp 7)) _ _ _ _ :: _) _ _); refine wpList_loadW 27 (.tmp 7) rfl nb 0 rfl (NR (.slice pa n pq)) _ Y13.out.range Tryd.underlying27 rfl (by rw [NL.out]; exact infoRtC) rfl ?_)
          | (go_at_call 19; (with_reducible refine ((HS1.out _ _ _ P13.out V13.out)).mono ?_); rintro e w14 ⟨rfl, b9⟩; have W14 := Lib.hid (W13.out.on b9); have X14 := Lib.hid (X13.out.below b9 X13.out.lt); have K14 := Lib.hid (K13.out.below b9 K13.out.lt); have V14 := Lib.hid (V13.out.below b9); have Y14 := Lib.hid (Y13.out.below b9 Y13.out.lt); have A14 := Lib.hid (A13.out.below b9); have B14 := Lib.hid (B13.out.below b9); have P14 := Lib.hid (P13.out.below b9); have C14 := Lib.hid (C13.out.below b9 C13.out.lt); have Q14 := Lib.hid (Q13.out.below b9); have D14 := Lib.hid (D13.out.below b9 D13.out.lt); have R14 := Lib.hid (R13.out.below b9); have E14 := Lib.hid (E13.out.below b9 E13.out.lt); have T14 := Lib.hid (T13.out.below b9); have G14 := Lib.hid (G13.out.below b9 G13.out.lt); clear b9)
          | ((with_reducible show wpList _ _ _ (Oper.mk _ (.load _ (.tmp 15)) _ _ _ _ :: _) _ _); refine wpList_loadW 27 (.tmp 15) rfl kb 0 rfl (NR (.slice xb n qb)) _ D14.out.range Tryd.underlying27 rfl (by rw [NL.out]; exact infoRtC) rfl ?_)
          | ((with_reducible show wpList _ _ _ (Oper.mk _ (.load _ (.tmp 7)) _ _ _ _ :: _) _ _); refine wpList_loadW 27 (.tmp 7) rfl nb 0 rfl (NR (.slice pa n pq)) _ Y14.out.range Tryd.underlying27 rfl (by rw [NL.out]; exact infoRtC) rfl ?_)
          | (go_at_call 19; (with_reducible refine ((HS1.out _ _ _ Q14.out V14.out)).mono ?_); rintro e w15 ⟨rfl, b9⟩; have W15 := Lib.hid (W14.out.on b9); have X15 := Lib.hid (X14.out.below b9 X14.out.lt); have K15 := Lib.hid (K14.out.below b9 K14.out.lt); have V15 := Lib.hid (V14.out.below b9); have Y15 := Lib.hid (Y14.out.below b9 Y14.out.lt); have A15 := Lib.hid (A14.out.below b9); have B15 := Lib.hid (B14.out.below b9); have P15 := Lib.hid (P14.out.below b9); have C15 := Lib.hid (C14.out.below b9 C14.out.lt); have Q15 := Lib.hid (Q14.out.below b9); have D15 := Lib.hid (D14.out.below b9 D14.out.lt); have R15 := Lib.hid (R14.out.below b9); have E15 := Lib.hid (E14.out.below b9 E14.out.lt); have T15 := Lib.hid (T14.out.below b9); have G15 := Lib.hid (G14.out.below b9 G14.out.lt); clear b9)
          | ((with_reducible show wpList _ _ _ (Oper.mk _ (.load _ (.tmp 18)) _ _ _ _ :: _) _ _); refine wpList_loadW 27 (.tmp 18) rfl kc 0 rfl (XR (.slice xc n qc)) _ E15.out.range Tryd.underlying27 rfl (by rw [XL.out]; exact infoRtC) rfl ?_)
          | ((with_reducible show wpList _ _ _ (Oper.mk _ (.load _ (.tmp 3)) _ _ _ _ :: _) _ _); refine wpList_loadW 27 (.tmp 3) rfl w.heap.size 0 rfl (XR (.slice pa n pq)) _ X15.out.range Tryd.underlying27 rfl (by rw [XL.out]; exact infoRtC) rfl ?_)
          | (go_at_call 19; (with_reducible refine ((HS3.out _ _ _ R15.out V15.out)).mono ?_); rintro e w16 ⟨rfl, b9⟩; have W16 := Lib.hid (W15.out.on b9); have X16 := Lib.hid (X15.out.below b9 X15.out.lt); have K16 := Lib.hid (K15.out.below b9 K15.out.lt); have V16 := Lib.hid (V15.out.below b9); have Y16 := Lib.hid (Y15.out.below b9 Y15.out.lt); have A16 := Lib.hid (A15.out.below b9); have B16 := Lib.hid (B15.out.below b9); have P16 := Lib.hid (P15.out.below b9); have C16 := Lib.hid (C15.out.below b9 C15.out.lt); have Q16 := Lib.hid (Q15.out.below b9); have D16 := Lib.hid (D15.out.below b9 D15.out.lt); have R16 := Lib.hid (R15.out.below b9); have E16 := Lib.hid (E15.out.below b9 E15.out.lt); have T16 := Lib.hid (T15.out.below b9); have G16 := Lib.hid (G15.out.below b9 G15.out.lt); clear b9)
          | (go_at_call 14; (with_reducible refine (rtawake_any _ (HT.out.below W16.out)).mono ?_); rintro e w17 ⟨rfl, b9⟩; have W17 := Lib.hid (W16.out.on b9); have X17 := Lib.hid (X16.out.below b9 X16.out.lt); have K17 := Lib.hid (K16.out.below b9 K16.out.lt); have V17 := Lib.hid (V16.out.below b9); have Y17 := Lib.hid (Y16.out.below b9 Y16.out.lt); have A17 := Lib.hid (A16.out.below b9); have B17 := Lib.hid (B16.out.below b9); have P17 := Lib.hid (P16.out.below b9); have C17 := Lib.hid (C16.out.below b9 C16.out.lt); have Q17 := Lib.hid (Q16.out.below b9); have D17 := Lib.hid (D16.out.below b9 D16.out.lt); have R17 := Lib.hid (R16.out.below b9); have E17 := Lib.hid (E16.out.below b9 E16.out.lt); have T17 := Lib.hid (T16.out.below b9); have G17 := Lib.hid (G16.out.below b9 G16.out.lt); clear b9))
        go_ret
        exact ⟨rfl, W17.out⟩
set_option maxRecDepth 100000 in
theorem reads (os : Os) {H : Type} (enc : TypeId × Value → H) : ∃ places, DataW.whole enc Tryd.prog ((World.doorLaid Tryd.prog 400 os).forCall (fun _ _ => 0) ⟨#[], #[.agg (RT.rtc RT.zero (.slice none 0 0)).toArray, .agg (row8 (List.replicate 32 0)).toArray, .int .u16 0], []⟩).memory Tryd.f9.params.toList Rows.rootNewerSpec.vars false (#[.agg (RT.rtc RT.zero (.slice none 0 0)).toArray, .agg (row8 (List.replicate 32 0)).toArray, .int .u16 0] : Array Value).toList 8 = some ([litRt, lit8 (List.replicate 32 0), .lit (.int .u16 0)], [], places) :=
  ⟨[], by kernel_rfl⟩
set_option maxRecDepth 100000 in
theorem wok (os : Os) : Input.okWideB Tryd.prog ((World.doorLaid Tryd.prog 400 os).forCall (fun _ _ => 0) ⟨#[], #[.agg (RT.rtc RT.zero (.slice none 0 0)).toArray, .agg (row8 (List.replicate 32 0)).toArray, .int .u16 0], []⟩) 9 ⟨#[], #[.agg (RT.rtc RT.zero (.slice none 0 0)).toArray, .agg (row8 (List.replicate 32 0)).toArray, .int .u16 0], []⟩ = true := by kernel_rfl
set_option linter.unusedVariables false in
set_option maxHeartbeats 1000000 in
set_option maxRecDepth 100000 in
theorem lifted (os : Os) (started : os.Started) (H : Type) (enc : TypeId × Value → H) (F : Stop.Interp) :
    ReturnsInHanded {} Tryd.checked os 9 .any ((OpenSpec.ofChange Rows.rootNewerSpec).preRow enc Tryd.prog Tryd.f9 Rows.rootNewerRow.domain false laidP) (((OpenSpec.ofChange Rows.rootNewerSpec).at F).post enc Tryd.prog Tryd.f9 false true false false) := by
  obtain ⟨places, hx⟩ := reads os enc
  refine returnsInHanded_of_row (C := Tryd.checked) (s := OpenSpec.ofChange Rows.rootNewerSpec) own started (by kernel_rfl) Tryd.func9
    (witness_row_atRef (enc := enc) (C := Tryd.checked) false (World.doorLaid Tryd.prog 400 os) #[.agg (RT.rtc RT.zero (.slice none 0 0)).toArray, .agg (row8 (List.replicate 32 0)).toArray, .int .u16 0] rfl (by kernel_rfl) (by kernel_rfl) (wok os)
      (OpenSpec.preRow_of_cond 8 hx (by kernel_rfl) (fun k hk => by cases hk) (by kernel_rfl) (doorP_met os _))) ?_
  intro W base args ds gs before hval0 hW _ hcond hsz0 hL _ _
  have hsz : (DataW.weightsEach Tryd.prog (Tryd.f9.params.toList ++ Rows.rootNewerSpec.plain.varTypes Tryd.prog) (ds ++ gs)).all (· ≤ reachBytes) = true := hsz0
  clear hsz0
  have hval : ∀ (j : Nat) t v, Tryd.f9.params[j]? = some t → args[j]? = some v → Value.okWide Tryd.prog W .any base t v := hval0
  have hW' := hW
  obtain ⟨p, q, hA0, hV, rfl, _, _⟩ := hW
  have hA : DataW.TrodAll enc Tryd.prog W 0 (fun _ => true) true Tryd.f9.params.toList args.toList ds p := hA0
  rw [Tryd.params9] at hA hval hsz
  obtain ⟨v0, vs0, d0, ds0, p0, q0, hargs, rfl, rfl, g0, r0⟩ := trodAll_cons hA
  obtain ⟨v1, vs1, d1, ds1, p1, q1, rfl, rfl, rfl, g1, r1⟩ := trodAll_cons r0
  obtain ⟨v2, vs2, d2, ds2, p2, q2, rfl, rfl, rfl, g2, r2⟩ := trodAll_cons r1
  obtain ⟨rfl, rfl, rfl⟩ := trodAll_nil r2
  obtain rfl : args = #[v0, v1, v2] := by cases args; simp_all
  obtain ⟨rfl, rfl⟩ := trodVars_none hV
  obtain ⟨rr0, uu0, rfl, hh0, pp0, kk0⟩ := open_root (hval 0 27 v0 rfl rfl) g0 (fun n hn => by simpa using List.all_eq_true.1 hsz n (DataW.weights_mem_each (j := 0) (t := 27) rfl rfl n hn))
  obtain ⟨l1, h1, rfl, rfl, rfl⟩ := open_row Tryd.underlying28 Tryd.underlying5 cells5 (hval 1 28 v1 rfl rfl) cells28 g1
  obtain ⟨a2, rfl, rfl, rfl, w2⟩ := open_int Tryd.underlying54 (hval 2 54 v2 rfl rfl) g2
  clear hA0 hval0
  have hlt := hW'.lt
  refine (walk W (tabP_of_laid hL) rr0 uu0 hh0 pp0 kk0 l1 h1 a2 w2).mono fun e W' ⟨he, hb⟩ => ?_
  subst he
  have hargs : DataW.TrodAll enc Tryd.prog W' 0 (fun b => decide (b < W.heap.size)) true _ _ _ _ := (trodAll_cons_mk (Below.trod laidOut (by kernel_rfl) (of_decide_eq_true (by kernel_rfl)) g0 hb (fun x hx => hlt x (by simp [hx]))) (trodAll_cons_mk (shut_row Tryd.underlying28 Tryd.underlying5 cells5 cells28 h1) (trodAll_cons_mk (shut_int Tryd.underlying54 w2) trodAll_mk0)))
  simp only [List.append_nil] at hW' hargs
  exact ⟨_, rfl, post_law hW' (trodAll_cons_mk (shut_bool Tryd.underlying4 _) trodAll_mk0) hargs rfl hb⟩
theorem over : Rows.rootNewerRow.holds Tryd.pinned (OpenSpec.ofChange Rows.rootNewerSpec) :=
  OpenClaim.holds_of_cond 9 Tryd.f9 rfl rfl rfl rfl rfl rfl rfl ⟨rfl, rfl, rfl, rfl, rfl⟩ rfl rfl rfl rfl rfl (by kernel_rfl) Tryd.func9 (by kernel_rfl)
    (of_decide_eq_true (by kernel_rfl)) (by unfold Func.isWrapper; first | (rw [if_pos (by decide +kernel)]; kernel_rfl) | (rw [if_neg (by decide +kernel)]; exact ⟨rfl, rfl⟩))
    (fun os started H enc _ F => by rw [OpenClaim.pre_eq_preRow]; exact lifted os started H enc F)

/-- The given statement. -/
theorem proved : Rows.RootNewerCardSaid :=
  Claim7.holds_tied_plain_at .later [] _ _ _ _
    over (fun _ h => by cases h) (by kernel_rfl) (fun _ h => by cases h) rootNewer_row_tie rfl ⟨rfl, rfl⟩ (by kernel_rfl) rfl
    (fun f fn hf hfn => by
      obtain rfl : f = 9 := Option.some.inj ((show Tryd.prog.funcNamed "reliquary/reliquarylaw14.RootNewer" = some 9 by kernel_rfl).symm.trans hf) |>.symm
      obtain rfl : fn = Tryd.f9 := (Option.some.inj (Tryd.func9.symm.trans hfn)).symm
      exact ⟨by kernel_rfl, fun j t ht => by
        rw [Tryd.params9] at ht
        have hm : t ∈ [27, 28, 54] := by simpa using Array.mem_of_getElem? ht
        have hall : ([27, 28, 54].all fun u => !Tryd.prog.wantsStandIn u) = true := by kernel_rfl
        exact (show Tryd.prog.wantsStandIn t = false by simpa using List.all_eq_true.1 hall t hm)⟩)
    (by kernel_rfl)
end Go.Proofs.YtenigdbnfepkeaaDoor.rootNewer
