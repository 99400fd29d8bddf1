/- Texts of one subject in one file: SlSealR, SlUsed, SlAddR. Own work. -/
import Derived.Test.YtbepchikngoknaaDoorSlDX
import Derived.Test.YtbepchikngoknaaDoorWrapR
import Derived.Test.YtbepchikngoknaaDoorZed
import Derived.Test.YtbepchikngoknaaDoorFactX
import Derived.Test.YtbepchikngoknaaDoorSlZ
import Derived.Test.YtbepchikngoknaaDoorSlN
import Derived.BigQuiet
import Derived.Test.YtbepchikngoknaaDoorResults
/- A slot that a passphrase makes: contract. Written by gen_slsealed.py. Own work. -/
namespace Go.Proofs.YtbepchikngoknaaDoor
open Go.ChangeShapes Go.WideShapes Go.ChangeAt Go.RowKit
open SM AM WM SL
/-- A key, what it seals, and both laid into a slot. -/
def SA (w1 : World) (sb : Nat) (C : List Value) (K Z : List Nat) : Nat → Told → World → Prop
  | 0, _, w => w = w1
  | 1, _, w => Below w1.heap.size w1 w
  | 2, _, w => Below w1.heap.size w1 w
  | 3, _, w => Blk w sb 28 (splice C 18 (row8 K)) ∧ w1.grownBy w (some sb)
  | _, _, w => Blk w sb 28 (splice (splice C 18 (row8 K)) 50 (row8 Z)) ∧ w1.grownBy w (some sb)
/-- The cells of a slot whose key is not sealed yet. -/
def begunSlot (salt : List Nat) (t : Nat) : Slot := ⟨true, t, salt, List.replicate 32 0, List.replicate 32 0⟩
theorem begunSlot_ok {salt : List Nat} (hs : Bytes 16 salt) {t : Nat} (ht : t < 65536) : Sok (begunSlot salt t) := ⟨ht, hs, bytes_zero 32, bytes_zero 32⟩
theorem builtBegun16 (t : Int) (x0 x1 x2 x3 x4 x5 x6 x7 x8 x9 x10 x11 x12 x13 x14 x15 : Value) : Tryd.prog.built 28 [(0, .bool true), (1, .int .u16 t), (2, .agg [x0, x1, x2, x3, x4, x5, x6, x7, x8, x9, x10, x11, x12, x13, x14, x15].toArray)] = some (.bool true :: .int .u16 t :: ([x0, x1, x2, x3, x4, x5, x6, x7, x8, x9, x10, x11, x12, x13, x14, x15] ++ (row8 (List.replicate 32 0) ++ row8 (List.replicate 32 0)))).toArray := by kernel_rfl
theorem builtBegun (t : Int) (salt : List Nat) (hs : salt.length = 16) : Tryd.prog.built 28 [(0, .bool true), (1, .int .u16 t), (2, .agg (row8 salt).toArray)] = some (.bool true :: .int .u16 t :: (row8 salt ++ (row8 (List.replicate 32 0) ++ row8 (List.replicate 32 0)))).toArray := by
  obtain ⟨S, hS⟩ : ∃ S, S = row8 salt := ⟨_, rfl⟩
  have h16 : S.length = 16 := by rw [hS, row8_len]; exact hs
  rw [← hS]
  clear hS hs
  match S, h16 with
  | [x0, x1, x2, x3, x4, x5, x6, x7, x8, x9, x10, x11, x12, x13, x14, x15], _ => exact builtBegun16 t x0 x1 x2 x3 x4 x5 x6 x7 x8 x9 x10 x11 x12 x13 x14 x15
set_option maxRecDepth 100000 in
set_option maxHeartbeats 2000000 in
theorem rsealed_any (p salt m : List Nat) (t : Nat) (v : Value) (w : World) (hp : p.length ≤ 512) (hs : Bytes 16 salt) (h1 : 1 ≤ t) (h2 : t ≤ 4096) (hm : Bytes 32 m) (hv : Rd w v p) (ha : TabA w) (hk : Tab w) :
    Calls Tryd.prog 62 #[v, .agg (row8 salt).toArray, .int .i64 (t : Int), .agg (row8 m).toArray] w fun e w' => e = .returned (.agg (slc (made p salt t m)).toArray) ∧ Below w.heap.size w w' := by
  obtain ⟨va, vc, rfl, _⟩ := hv.shape
  obtain ⟨pl, hpl⟩ : ∃ n, n = p.length := ⟨_, rfl⟩
  obtain ⟨K, hK⟩ : ∃ K, K = key p salt t := ⟨_, rfl⟩
  obtain ⟨Q, hQ⟩ : ∃ Q, Q = wseal K m := ⟨_, rfl⟩
  obtain ⟨C, hC⟩ : ∃ C, C = wcheck K Q := ⟨_, rfl⟩
  have bK : Bytes 32 K := by rw [hK]; exact key_bytes _ _ _
  have bQ : Bytes 32 Q := by rw [hQ]; exact wseal_bytes K hm
  have bC : Bytes 32 C := by rw [hC]; exact wcheck_bytes K Q
  have hmade : made p salt t m = ⟨true, t, salt, Q, C⟩ := by unfold made; rw [hC, hQ, hK]
  have hb0 := begunSlot_ok hs (t := t) (by omega)
  obtain ⟨N, hN⟩ : ∃ N, N = slc (begunSlot salt t) := ⟨_, rfl⟩
  have N82 := Lib.hid (show N.length = 82 by rw [hN]; exact slc_len hb0)
  have hsp1 : splice N 18 (row8 Q) = slc ⟨true, t, salt, Q, List.replicate 32 0⟩ := by rw [hN, splice_sld hb0 bQ]; rfl
  have hb1 : Sok ⟨true, t, salt, Q, List.replicate 32 0⟩ := ⟨by show t < 65536; omega, hs, bQ, bytes_zero 32⟩
  have P82 := Lib.hid (show (splice N 18 (row8 Q)).length = 82 by rw [hsp1]; exact slc_len hb1)
  have HFIN := Lib.hid (show splice (splice N 18 (row8 Q)) 50 (row8 C) = slc (made p salt t m) by rw [hsp1, splice_chk hb1 bC, hmade])
  have F82 := Lib.hid (show (slc (made p salt t m)).length = 82 by rw [hmade]; exact slc_len ⟨by show t < 65536; omega, hs, bQ, bC⟩)
  have NONE := Lib.hid (show N.toArray.all (·.oneCell') = true by rw [hN]; exact slc_all _)
  obtain ⟨F, hF⟩ : ∃ F, F = slc (made p salt t m) := ⟨_, rfl⟩
  have FONE := Lib.hid (show F.toArray.all (·.oneCell') = true by rw [hF]; exact slc_all _)
  rw [← hF] at HFIN F82 ⊢
  have HBD := Lib.hid (show Tryd.prog.built 28 [(0, .bool true), (1, .int .u16 (t : Int)), (2, .agg (row8 salt).toArray)] = some N.toArray by rw [builtBegun _ _ hs.1, hN]; rfl)
  have A16 := Lib.hid (show (row8 salt).length = 16 by rw [row8_len]; exact hs.1)
  have M32 := Lib.hid (show (row8 m).length = 32 by rw [row8_len]; exact hm.1)
  have Q32 := Lib.hid (show (row8 Q).length = 32 by rw [row8_len]; exact bQ.1)
  have C32 := Lib.hid (show (row8 C).length = 32 by rw [row8_len]; exact bC.1)
  obtain ⟨D1, hD1⟩ : ∃ D, D = slc none_ := ⟨_, rfl⟩
  have hz1 : ∀ w, (zeroValue 28).run Tryd.prog w = .ok (.agg D1.toArray) w := by rw [hD1]; exact zeroSl
  have hd1 : D1.length = 82 := by rw [hD1]; exact slc_len none_ok
  have x1 := (Below.refl w.heap.size w).alloc (Nat.le_refl _) (.cells (row8 salt).toArray 23)
  have x2 := x1.alloc x1.size (.cells (row8 m).toArray 25)
  have x3 := x2.alloc x2.size (.cells D1.toArray 28)
  obtain ⟨w3, hw3⟩ : ∃ x, x = ((w.alloc (.cells (row8 salt).toArray 23)).alloc (.cells (row8 m).toArray 25)).alloc (.cells D1.toArray 28) := ⟨_, rfl⟩
  have X3 := Lib.hid (show Below w.heap.size w w3 by rw [hw3]; exact x3)
  have S3 := Lib.hid (show Blk w3 w.heap.size 23 (row8 salt) by rw [hw3]; exact ((Blk.new w _ (row8 salt) _ rfl).alloc _).alloc _)
  have M3 := Lib.hid (show Blk w3 (w.heap.size + 1) 25 (row8 m) by rw [hw3]; exact (Blk.new (w.alloc (.cells (row8 salt).toArray 23)) 25 (row8 m) (w.heap.size + 1) (by simp)).alloc _)
  have R3 := Lib.hid (show Blk w3 (w.heap.size + 1 + 1) 28 D1 by rw [hw3]; exact Blk.new ((w.alloc (.cells (row8 salt).toArray 23)).alloc (.cells (row8 m).toArray 25)) 28 D1 (w.heap.size + 1 + 1) (by simp))
  have HW3 := Lib.hid hw3
  have HV := Lib.hid hv
  have HSH := Lib.hid hp
  have HS := Lib.hid hs
  have HK1 := Lib.hid h1
  have HK2 := Lib.hid h2
  have HA := Lib.hid ha
  have HK := Lib.hid hk
  have HKK := Lib.hid hK
  have BK := Lib.hid bK
  have BM := Lib.hid hm
  have HQC := Lib.hid (show Q = wseal K m ∧ C = wcheck K (wseal K m) from ⟨hQ, by rw [hC, hQ]⟩)
  have aw : IntKind.u16.wrap (t : Int) = (t : Int) := by rw [IntKind.wrap_u16]; omega
  rw [← hpl] at HV ⊢
  clear hv hp hs h1 h2 ha hk hK bK hm hQ hC bQ bC hmade hb0 hN hsp1 hb1 hF hD1 x1 x2 x3 hw3 hpl
  go_enter Tryd.func62, Tryd.ntmps62
  go_upto_region 1 with fail
  rw [← HW3.out]
  clear HW3
  go_upto_region 2 with (first
    | (refine wpList_load_mid rfl 23 (.tmp 5) rfl w.heap.size 0 rfl (row8 salt) _ S3.out.range Tryd.underlying23 rfl (by rw [A16.out]; exact info162) ?_)
    | (refine wpList_buildTo rfl 28 _ rfl (some 13) rfl N.toArray (Eq.trans (b := Tryd.prog.built 28 [(0, .bool true), (1, .int .u16 (t : Int)), (2, .agg (row8 salt).toArray)]) (by kernel_rfl) HBD.out) ?_)
    | (refine wpList_store_blk rfl 28 (.tmp 9) (.tmp 13) rfl w3.heap.size 0 N rfl rfl 28 D1 (Blk.new w3 28 D1 _ rfl) (by rw [N82.out, hd1]; exact Nat.le_refl _) (by rw [N82.out]; exact infoSl) NONE.out ?_; intro w4 b4 g4; rw [splice_all _ _ (by rw [N82.out, hd1])] at b4; have N4 := Lib.hid b4; have B4 := Lib.hid (alloc_turn (Below.refl _ _) g4); clear b4 g4))
  obtain ⟨sb, hsb⟩ : ∃ b, b = w3.heap.size := ⟨_, rfl⟩
  rw [← hsb] at N4 ⊢
  obtain ⟨w1, hw1⟩ : ∃ x, x = w4.drew := ⟨_, rfl⟩
  have HW1 := Lib.hid hw1
  have X4 := Lib.hid (show Below w.heap.size w w1 by rw [hw1]; exact (X3.out.on B4.out).on (Below.refl _ _).drew)
  have SB1 := Lib.hid (show Blk w1 w.heap.size 23 (row8 salt) by rw [hw1]; exact (S3.out.below B4.out S3.out.lt).drew)
  have MB1 := Lib.hid (show Blk w1 (w.heap.size + 1) 25 (row8 m) by rw [hw1]; exact (M3.out.below B4.out M3.out.lt).drew)
  have RB1 := Lib.hid (show Blk w1 (w.heap.size + 1 + 1) 28 D1 by rw [hw1]; exact (R3.out.below B4.out R3.out.lt).drew)
  have NB1 := Lib.hid (show Blk w1 sb 28 N by rw [hw1]; exact N4.out.drew)
  have NE := Lib.hid (show w.heap.size + 1 + 1 < sb by rw [hsb]; exact R3.out.lt)
  have HKEY := Lib.hid (fun W (hW : Below w1.heap.size w1 W) => rkey_any p salt t (.slice va pl vc) W HSH.out HS.out HK1.out HK2.out ((HV.out.below X4.out).below hW) ((HK.out.below X4.out).below hW))
  rw [← HKK.out] at HKEY
  have HSEAL := Lib.hid (fun W (hW : Below w1.heap.size w1 W) => rwseal_any K m BK.out BM.out W ((HA.out.below X4.out).below hW) ((HK.out.below X4.out).below hW))
  rw [← HQC.out.1, show wcheck K Q = C by rw [HQC.out.1, ← HQC.out.2]] at HSEAL
  clear hw1 hsb
  refine wp_region_z (by kernel_rfl) [3, 5, 10, 12] (by kernel_rfl) (by kernel_rfl) (Stg [3, 5, 10, 12] (SA w1 sb N Q C)) [.pre (.slice va pl vc), .pre (.agg (row8 salt).toArray), .pre (.int .i64 (t : Int)), .pre (.agg (row8 K).toArray), .pre (.agg (row8 m).toArray), .pre (.tuple #[.agg (row8 Q).toArray, .agg (row8 C).toArray]), .pre (.tuple #[.agg (row8 Q).toArray, .agg (row8 C).toArray]), .pre (.agg (row8 Q).toArray), .pre (.agg (row8 C).toArray), .pre (.pointer (some ⟨sb, 18, none⟩)), .any, .pre (.pointer (some ⟨sb, 50, none⟩)), .any] (fun i hi hq => by
        simp only [List.mem_cons, List.mem_nil_iff, or_false] at hi
        rcases hi with rfl | rfl | rfl | rfl
        · exact absurd hq (by decide +kernel)
        · exact absurd hq (by decide +kernel)
        · rfl
        · rfl) (Stg.zero (show _ = w1 from HW1.out.symm)) ?_ ?_
  · refine ⟨?_, ?_, ?_, ?_, ?_, ?_, ?_, ?_, ?_, ?_, ?_, ?_, ?_, trivial⟩
    · intro a w5 r hF hI hns hri h1 h2 hd
      have e0 : a.eval (.tmp 0) = .slice va pl vc := hF 0 (by decide +kernel)
      exact doesZ_read (v := .slice va pl vc) (by decide) rfl (ex_move rfl e0) hI rfl
    · intro a w5 r hF hI hns hri h1 h2 hd
      have e5 : a.eval (.tmp 5) = .pointer (some ⟨w.heap.size, 0, none⟩) := hF 5 (by decide +kernel)
      have hA : SA w1 sb N Q C 0 r w5 := hI.at_ 0 (.inl rfl) (.inr ⟨by decide, h1 3 (by decide) (by decide +kernel)⟩)
      have hw : w5 = w1 := hA
      subst hw
      have hrr := SB1.out.range
      exact doesZ_ld (by decide) rfl 23 (.tmp 5) rfl w.heap.size 0 e5 (row8 salt) hrr _ Tryd.underlying23 rfl (by rw [A16.out]; exact info162) hI rfl
    · intro a w5 r hF hI hns hri h1 h2 hd
      have e2 : a.eval (.tmp 2) = .int .i64 (t : Int) := hF 2 (by decide +kernel)
      exact doesZ_read (v := .int .i64 (t : Int)) (by decide) rfl (ex_move rfl e2) hI rfl
    · intro a w5 r hF hI hns hri h1 h2 hd
      have e15 : a.eval (.tmp 15) = .slice va pl vc := hd 0 (by decide +kernel)
      have e16 : a.eval (.tmp 16) = .agg (row8 salt).toArray := hd 1 (by decide +kernel)
      have e17 : a.eval (.tmp 17) = .int .i64 (t : Int) := hd 2 (by decide +kernel)
      have hA : SA w1 sb N Q C 0 r w5 := hI.at_ 0 (.inl rfl) (.inr ⟨by decide, hri⟩)
      have hw : w5 = w1 := hA
      subst hw
      exact doesZ_call (by decide) rfl (ex_call (vs := #[.slice va pl vc, .agg (row8 salt).toArray, .int .i64 (t : Int)]) rfl (by simp only [List.map_toArray, List.map_cons, List.map_nil, e15, e16, e17]) (by go_simp)) ((HKEY.out _ (Below.refl _ _)).mono fun e w6 hh => by obtain ⟨he, hl⟩ := hh; exact ⟨_, he, hI.next 0 3 _ rfl (by decide) (.inl rfl) hri (by decide) (hl), rfl⟩)
    · intro a w5 r hF hI hns hri h1 h2 hd
      have e7 : a.eval (.tmp 7) = .pointer (some ⟨w.heap.size + 1, 0, none⟩) := hF 7 (by decide +kernel)
      obtain ⟨k, hk1, hk2, hA⟩ : ∃ k, 0 ≤ k ∧ k ≤ 1 ∧ SA w1 sb N Q C k r w5 := hI.between 0 1 (.inl rfl) (.inr ⟨by decide, h1 5 (by decide) (by decide +kernel)⟩)
      have hb1 : Below w1.heap.size w1 w5 := by
        rcases (show k = 0 ∨ k = 1 by omega) with rfl | rfl
        · rw [show w5 = w1 from hA]; exact Below.refl _ _
        · exact hA
      have hrr := (MB1.out.below hb1 MB1.out.lt).range
      exact doesZ_ld (by decide) rfl 25 (.tmp 7) rfl (w.heap.size + 1) 0 e7 (row8 m) hrr _ Tryd.underlying25 rfl (by rw [M32.out]; exact infoK2) hI rfl
    · intro a w5 r hF hI hns hri h1 h2 hd
      have e18 : a.eval (.tmp 18) = .agg (row8 K).toArray := hd 3 (by decide +kernel)
      have e19 : a.eval (.tmp 19) = .agg (row8 m).toArray := hd 4 (by decide +kernel)
      have hA : SA w1 sb N Q C 1 r w5 := hI.at_ 1 (.inr ⟨by decide, h2 3 (by decide) (by decide +kernel)⟩) (.inr ⟨by decide, hri⟩)
      have hA : Below w1.heap.size w1 w5 := hA
      exact doesZ_call (by decide) rfl (ex_call (vs := #[.agg (row8 K).toArray, .agg (row8 m).toArray]) rfl (by simp only [List.map_toArray, List.map_cons, List.map_nil, e18, e19]) (by go_simp)) ((HSEAL.out _ hA).mono fun e w6 hh => by obtain ⟨he, hl⟩ := hh; exact ⟨_, he, hI.next 1 5 _ rfl (by decide) (.inr ⟨by decide, h2 3 (by decide) (by decide +kernel)⟩) hri (by decide) (hA.on hl), rfl⟩)
    · intro a w5 r hF hI hns hri h1 h2 hd
      have e20 : a.eval (.tmp 20) = .tuple #[.agg (row8 Q).toArray, .agg (row8 C).toArray] := hd 5 (by decide +kernel)
      exact doesZ_read (v := .tuple #[.agg (row8 Q).toArray, .agg (row8 C).toArray]) (by decide) rfl (ex_move rfl e20) hI rfl
    · intro a w5 r hF hI hns hri h1 h2 hd
      have e14 : a.eval (.tmp 14) = .tuple #[.agg (row8 Q).toArray, .agg (row8 C).toArray] := hd 6 (by decide +kernel)
      exact doesZ_read (v := .agg (row8 Q).toArray) (by decide) rfl (by unfold execOp; simp only [e14]; go_simp) hI rfl
    · intro a w5 r hF hI hns hri h1 h2 hd
      have e14 : a.eval (.tmp 14) = .tuple #[.agg (row8 Q).toArray, .agg (row8 C).toArray] := hd 6 (by decide +kernel)
      exact doesZ_read (v := .agg (row8 C).toArray) (by decide) rfl (by unfold execOp; simp only [e14]; go_simp) hI rfl
    · intro a w5 r hF hI hns hri h1 h2 hd
      have e9 : a.eval (.tmp 9) = .pointer (some ⟨sb, 0, none⟩) := hF 9 (by decide +kernel)
      exact doesZ_read (v := .pointer (some ⟨sb, 18, none⟩)) (by decide) rfl (ex_fieldAddr rfl e9 (by go_simp)) hI rfl
    · intro a w5 r hF hI hns hri h1 h2 hd
      have e23 : a.eval (.tmp 23) = .pointer (some ⟨sb, 18, none⟩) := hd 9 (by decide +kernel)
      have e21 : a.eval (.tmp 21) = .agg (row8 Q).toArray := hd 7 (by decide +kernel)
      have hA : SA w1 sb N Q C 2 r w5 := hI.at_ 2 (.inr ⟨by decide, h2 5 (by decide) (by decide +kernel)⟩) (.inr ⟨by decide, hri⟩)
      have hA : Below w1.heap.size w1 w5 := hA
      have hb := NB1.out.below hA NB1.out.lt
      exact doesZ_put (by decide) rfl 25 (.tmp 23) (.tmp 21) rfl sb 18 (row8 Q) e23 e21 28 _ hb (by rw [Q32.out, N82.out]; decide) (by rw [Q32.out]; exact infoK2) (row8_one _) rfl (fun w' o' g' => hI.next 2 10 _ rfl (by decide) (.inr ⟨by decide, h2 5 (by decide) (by decide +kernel)⟩) hri (by decide) (⟨o', only_trans (grown_of_below hA _) g'⟩))
    · intro a w5 r hF hI hns hri h1 h2 hd
      have e9 : a.eval (.tmp 9) = .pointer (some ⟨sb, 0, none⟩) := hF 9 (by decide +kernel)
      exact doesZ_read (v := .pointer (some ⟨sb, 50, none⟩)) (by decide) rfl (ex_fieldAddr rfl e9 (by go_simp)) hI rfl
    · intro a w5 r hF hI hns hri h1 h2 hd
      have e24 : a.eval (.tmp 24) = .pointer (some ⟨sb, 50, none⟩) := hd 11 (by decide +kernel)
      have e22 : a.eval (.tmp 22) = .agg (row8 C).toArray := hd 8 (by decide +kernel)
      have hA : SA w1 sb N Q C 3 r w5 := hI.at_ 3 (.inr ⟨by decide, h2 10 (by decide) (by decide +kernel)⟩) (.inr ⟨by decide, hri⟩)
      obtain ⟨hb, hg⟩ := hA
      exact doesZ_put (by decide) rfl 26 (.tmp 24) (.tmp 22) rfl sb 50 (row8 C) e24 e22 28 _ hb (by rw [C32.out, P82.out]; decide) (by rw [C32.out]; exact infoS) (row8_one _) rfl (fun w' o' g' => hI.next 3 12 _ rfl (by decide) (.inr ⟨by decide, h2 10 (by decide) (by decide +kernel)⟩) hri (by decide) (⟨o', only_trans hg g'⟩))
  · intro vs r w5 hI hS hvs
    obtain ⟨bl5, g5⟩ := hI.at_ 4 (.inr ⟨by decide, hS 12 (by decide)⟩) (.inl rfl)
    rw [HFIN.out] at bl5
    have B5 := Lib.hid bl5
    have R5 := Lib.hid (RB1.out.grown g5 (fun e => by have := Option.some.inj e; have := NE.out; omega))
    have W5 := Lib.hid (X4.out.grown g5 X4.out.size (fun g hg => by have := Option.some.inj hg; have := NE.out; omega))
    clear hI hS hvs bl5 g5
    simp only [putOps, Act.put, List.setIfInBounds_toArray, List.set_cons_zero, List.set_cons_succ]
    go_wp2_with (first
      | (refine wpList_load_mid rfl 28 (.tmp 9) rfl sb 0 rfl F _ B5.out.range Tryd.underlying28 rfl (by rw [F82.out]; exact infoSl) ?_)
      | (refine wpList_store_blk rfl 28 (.tmp 8) (.tmp 25) rfl (w.heap.size + 1 + 1) 0 F rfl rfl 28 D1 R5.out (by rw [F82.out, hd1]; exact Nat.le_refl _) (by rw [F82.out]; exact infoSl) FONE.out ?_; intro w6 b6 g6; rw [splice_all _ _ (by rw [F82.out, hd1])] at b6; have U6 := Lib.hid b6; have W6 := Lib.hid (W5.out.grown g6 W5.out.size (fun g hg => by have := Option.some.inj hg; omega)); clear b6 g6))
    exact bodyPost_ret (results_mid rfl _ _ (w.heap.size + 1 + 1) F _ rfl U6.out.range Tryd.underlying28 rfl (by rw [F82.out]; exact infoSl)) rfl ⟨rfl, W6.out⟩
end Go.Proofs.YtbepchikngoknaaDoor
/- How many slots are used, by the document: contract. Own work. -/
namespace Go.Proofs.YtbepchikngoknaaDoor
open Go.ChangeShapes Go.WideShapes Go.ChangeAt Go.RowKit
open SL
set_option maxRecDepth 100000 in
theorem rused_any (T : List Slot) (hT : Tok T) (w : World) : Calls Tryd.prog 14 #[.agg (tbc T).toArray] w fun e w' => e = .returned (.int .i64 (used T : Int)) ∧ Below w.heap.size w w' := by
  obtain ⟨L, hL⟩ : ∃ L, L = tbc T := ⟨_, rfl⟩
  rw [← hL, ← usedTo_all hT]
  have HT := Lib.hid hT
  have HL := Lib.hid hL
  clear hT hL
  go_enter Tryd.func14, Tryd.ntmps14
  go_wp2_with fail
  have hb0 : Blk (w.alloc (.cells L.toArray 34)) w.heap.size 34 L := Blk.new _ _ _ _ rfl
  go_loopw [3, 4] (fun x i wr => ∃ k : Nat, k ≤ 8 ∧ i = .int .i64 (k : Int) ∧ x = .int .i64 (usedTo T k : Int) ∧ Blk wr w.heap.size 34 L ∧ Below w.heap.size w wr) (fun _ i _ => 8 - (intOf i).toNat)
  case atStart => exact ⟨0, by decide, rfl, rfl, hb0, (Below.refl _ _).alloc (Nat.le_refl _) _⟩
  case round =>
    clear hb0
    obtain ⟨k, hk, rfl, rfl, hb, hbw⟩ := hrel
    have B := Lib.hid hb
    have BW := Lib.hid hbw
    by_cases hlt : k < 8
    · have c0 : wr.cell? ⟨w.heap.size, k * 82, none⟩ = some (.bool (at_ T k).used) := by
        rw [HL.out] at hb
        exact hb.usedAt HT.out hlt
      have hs := usedTo_succ HT.out hlt
      have hle := usedTo_le T k
      clear hb hbw
      obtain ⟨y, hy⟩ : ∃ y, y = usedTo T k := ⟨_, rfl⟩
      have HY := Lib.hid hy
      rw [← hy] at hs hle ⊢
      cases hu : (at_ T k).used with
      | true =>
        rw [hu] at c0 hs
        have HS := Lib.hid (show usedTo T (k + 1) = y + 1 from hs)
        clear hs hy
        go_wp2_with fail
        exact ⟨⟨k + 1, by omega, by go_num, by rw [HS.out]; go_num, B.out, BW.out⟩, by simp [intOf]; omega⟩
      | false =>
        rw [hu] at c0 hs
        have HS := Lib.hid (show usedTo T (k + 1) = y from hs)
        clear hs hy
        go_wp2_with fail
        exact ⟨⟨k + 1, by omega, by go_num, by rw [HS.out], B.out, BW.out⟩, by simp [intOf]; omega⟩
    · obtain rfl : k = 8 := by omega
      clear hb hbw
      go_wp2_with fail
      go_ret
      exact ⟨rfl, BW.out⟩
end Go.Proofs.YtbepchikngoknaaDoor
/- The document's passphrases that come, are added, removed, put in the place of others: contracts. Written by gen_slref.py. Own work. -/
namespace Go.Proofs.YtbepchikngoknaaDoor
open Go.ChangeShapes Go.WideShapes Go.ChangeAt Go.RowKit
open SM AM WM SL
set_option maxRecDepth 100000 in
set_option maxHeartbeats 1000000 in
theorem rfresh_any (T : List Slot) (hT : Tok T) (p : List Nat) (t : Int) (v : Value) (w : World) (hv : Rd w v p) (ha : TabA w) (hk : Tab w) :
    Calls Tryd.prog 61 #[.agg (tbc T).toArray, v, .int .i64 t] w fun e w' => e = .returned (.int .i64 (comes T p t)) ∧ Below w.heap.size w w' := by
  obtain ⟨va, vc, rfl, _⟩ := hv.shape
  obtain ⟨pl, hpl⟩ : ∃ n, n = p.length := ⟨_, rfl⟩
  obtain ⟨L, hL⟩ : ∃ L, L = tbc T := ⟨_, rfl⟩
  obtain ⟨RK, hRK⟩ : ∃ x, x = okey T p := ⟨_, rfl⟩
  obtain ⟨RI, hRI⟩ : ∃ x, x = oidx T p := ⟨_, rfl⟩
  obtain ⟨RE, hRE⟩ : ∃ x, x = oerr T p := ⟨_, rfl⟩
  obtain ⟨RC, hRC⟩ : ∃ x, x = comes T p t := ⟨_, rfl⟩
  obtain ⟨D0, hD0⟩ : ∃ D, D = row8 (List.replicate 32 0) := ⟨_, rfl⟩
  have hz : ∀ w, (zeroValue 25).run Tryd.prog w = .ok (.agg D0.toArray) w := by rw [hD0]; exact zeroK2
  have hd0 : D0.length = 32 := by rw [hD0, row8_len, List.length_replicate]
  have K32 := Lib.hid (show (row8 RK).length = 32 by rw [row8_len, hRK]; exact (okey_bytes hT p).1)
  have L656 := Lib.hid (show L.length = 656 by rw [hL]; exact tbc_len hT)
  have W1 := Lib.hid ((Below.refl w.heap.size w).alloc (Nat.le_refl _) (.cells L.toArray 34))
  have T1 := Lib.hid (Blk.new w 34 L _ rfl)
  have HO := Lib.hid (ropen_any T hT p _ _ (hv.alloc (.cells L.toArray 34)) (ha.below W1.out) (hk.below W1.out))
  rw [← hL, ← hRK, ← hRI, ← hRE, ← hpl] at HO
  rw [← hL, ← hpl, ← hRC]
  have hRC2 : RC = if 512 < pl then 5 else if t < 1 ∨ 4096 < t then 2 else if RE = 0 then 23 else 0 := by rw [hRC, hRE, hpl]; rfl
  have HEC := Lib.hid (show RE = 0 ∨ RE = 5 ∨ RE = 30 by rw [hRE]; exact oerr_cases T p)
  clear hv ha hk hT hpl hL hRK hRI hRE hRC hD0
  by_cases hlong : 512 < pl
  · rw [if_pos hlong] at hRC2
    have hlz : (512 : Int) < (pl : Int) := by omega
    subst hRC2
    go_enter Tryd.func61, Tryd.ntmps61
    go_wp2_with fail
    go_ret
    exact ⟨rfl, W1.out⟩
  · rw [if_neg hlong] at hRC2
    have hlz : ¬ (512 : Int) < (pl : Int) := by omega
    by_cases h1 : t < 1
    · rw [if_pos (.inl h1)] at hRC2
      subst hRC2
      go_enter Tryd.func61, Tryd.ntmps61
      go_wp2_with fail
      go_ret
      exact ⟨rfl, W1.out⟩
    · by_cases h2 : 4096 < t
      · rw [if_pos (.inr h2)] at hRC2
        subst hRC2
        go_enter Tryd.func61, Tryd.ntmps61
        go_wp2_with fail
        go_ret
        exact ⟨rfl, W1.out⟩
      · rw [if_neg (by omega)] at hRC2
        rcases HEC.out with rfl | rfl | rfl
        · rw [if_pos rfl] at hRC2
          subst hRC2
          go_enter Tryd.func61, Tryd.ntmps61
          go_wp2_with (first
        | (refine wpList_load_mid rfl 34 (.tmp 3) rfl w.heap.size 0 rfl L _ (show _ from T1.out.range) Tryd.underlying34 rfl (by rw [L656.out]; exact infoTr) ?_)
        | (go_at_call 20; (with_reducible refine (HO.out).mono ?_); rintro e w2 ⟨rfl, b⟩; have W2 := Lib.hid (W1.out.on b); clear b)
        | (refine wpList_store_blk rfl 25 (.tmp 7) (.tmp 25) rfl w2.heap.size 0 (row8 RK) rfl rfl 25 D0 (Blk.new w2 25 D0 _ rfl) (by rw [K32.out, hd0]; exact Nat.le_refl _) (by rw [K32.out]; exact infoK2) (row8_one _) ?_; intro w5 b5 g5; have W5 := Lib.hid (W2.out.on (alloc_turn (Below.refl _ _) g5)); clear b5 g5))
          go_ret
          exact ⟨rfl, W5.out⟩
        · rw [if_neg (by decide)] at hRC2
          subst hRC2
          go_enter Tryd.func61, Tryd.ntmps61
          go_wp2_with (first
        | (refine wpList_load_mid rfl 34 (.tmp 3) rfl w.heap.size 0 rfl L _ (show _ from T1.out.range) Tryd.underlying34 rfl (by rw [L656.out]; exact infoTr) ?_)
        | (go_at_call 20; (with_reducible refine (HO.out).mono ?_); rintro e w2 ⟨rfl, b⟩; have W2 := Lib.hid (W1.out.on b); clear b)
        | (refine wpList_store_blk rfl 25 (.tmp 7) (.tmp 25) rfl w2.heap.size 0 (row8 RK) rfl rfl 25 D0 (Blk.new w2 25 D0 _ rfl) (by rw [K32.out, hd0]; exact Nat.le_refl _) (by rw [K32.out]; exact infoK2) (row8_one _) ?_; intro w5 b5 g5; have W5 := Lib.hid (W2.out.on (alloc_turn (Below.refl _ _) g5)); clear b5 g5))
          go_ret
          exact ⟨rfl, W5.out⟩
        · rw [if_neg (by decide)] at hRC2
          subst hRC2
          go_enter Tryd.func61, Tryd.ntmps61
          go_wp2_with (first
        | (refine wpList_load_mid rfl 34 (.tmp 3) rfl w.heap.size 0 rfl L _ (show _ from T1.out.range) Tryd.underlying34 rfl (by rw [L656.out]; exact infoTr) ?_)
        | (go_at_call 20; (with_reducible refine (HO.out).mono ?_); rintro e w2 ⟨rfl, b⟩; have W2 := Lib.hid (W1.out.on b); clear b)
        | (refine wpList_store_blk rfl 25 (.tmp 7) (.tmp 25) rfl w2.heap.size 0 (row8 RK) rfl rfl 25 D0 (Blk.new w2 25 D0 _ rfl) (by rw [K32.out, hd0]; exact Nat.le_refl _) (by rw [K32.out]; exact infoK2) (row8_one _) ?_; intro w5 b5 g5; have W5 := Lib.hid (W2.out.on (alloc_turn (Below.refl _ _) g5)); clear b5 g5))
          go_ret
          exact ⟨rfl, W5.out⟩
set_option maxRecDepth 100000 in
set_option maxHeartbeats 2000000 in
theorem radd_any (T : List Slot) (hT : Tok T) (p salt m : List Nat) (t : Int) (v : Value) (w : World) (hs : Bytes 16 salt) (hm : Bytes 32 m) (hv : Rd w v p) (ha : TabA w) (hk : Tab w) :
    Calls Tryd.prog 42 #[.agg (tbc T).toArray, v, .agg (row8 salt).toArray, .int .i64 t, .agg (row8 m).toArray] w fun e w' => e = .returned (.tuple #[.agg (tbc (add T p salt t m)).toArray, .int .i64 (aerr T p t)]) ∧ Below w.heap.size w w' := by
  obtain ⟨va, vc, rfl, _⟩ := hv.shape
  obtain ⟨pl, hpl⟩ : ∃ n, n = p.length := ⟨_, rfl⟩
  obtain ⟨L, hL⟩ : ∃ L, L = tbc T := ⟨_, rfl⟩
  obtain ⟨RC, hRC⟩ : ∃ x, x = comes T p t := ⟨_, rfl⟩
  obtain ⟨RE, hRE⟩ : ∃ x, x = aerr T p t := ⟨_, rfl⟩
  obtain ⟨RT, hRT⟩ : ∃ x, x = tbc (add T p salt t m) := ⟨_, rfl⟩
  obtain ⟨Z0, hZ0⟩ : ∃ D, D = tbc zero := ⟨_, rfl⟩
  have hz : ∀ w, (zeroValue 34).run Tryd.prog w = .ok (.agg Z0.toArray) w := by rw [hZ0]; exact zeroTr
  have hz656 : Z0.length = 656 := by rw [hZ0]; exact tbc_len zero_ok
  have hbz : Tryd.prog.built 34 [] = some Z0.toArray := by rw [hZ0]; exact builtTr
  have ZONE := Lib.hid (show Z0.toArray.all (·.oneCell') = true by rw [hZ0]; exact tbc_all _)
  have L656 := Lib.hid (show L.length = 656 by rw [hL]; exact tbc_len hT)
  have A16 := Lib.hid (show (row8 salt).length = 16 by rw [row8_len]; exact hs.1)
  have M32 := Lib.hid (show (row8 m).length = 32 by rw [row8_len]; exact hm.1)
  have x1 := (Below.refl w.heap.size w).alloc (Nat.le_refl _) (.cells L.toArray 34)
  have x2 := x1.alloc x1.size (.cells (row8 salt).toArray 23)
  have x3 := x2.alloc x2.size (.cells (row8 m).toArray 25)
  have x4 := x3.alloc x3.size (.cells Z0.toArray 34)
  obtain ⟨w4, hw4⟩ : ∃ x, x = (((w.alloc (.cells L.toArray 34)).alloc (.cells (row8 salt).toArray 23)).alloc (.cells (row8 m).toArray 25)).alloc (.cells Z0.toArray 34) := ⟨_, rfl⟩
  have W4 := Lib.hid (show Below w.heap.size w w4 by rw [hw4]; exact x4)
  have T4 := Lib.hid (show Blk w4 w.heap.size 34 L by rw [hw4]; exact (((Blk.new w _ L _ rfl).alloc _).alloc _).alloc _)
  have A4 := Lib.hid (show Blk w4 (w.heap.size + 1) 23 (row8 salt) by rw [hw4]; exact ((Blk.new (w.alloc (.cells L.toArray 34)) 23 (row8 salt) (w.heap.size + 1) (by simp)).alloc _).alloc _)
  have K4 := Lib.hid (show Blk w4 (w.heap.size + 1 + 1) 25 (row8 m) by rw [hw4]; exact (Blk.new ((w.alloc (.cells L.toArray 34)).alloc (.cells (row8 salt).toArray 23)) 25 (row8 m) (w.heap.size + 1 + 1) (by simp)).alloc _)
  have R4 := Lib.hid (show Blk w4 (w.heap.size + 1 + 1 + 1) 34 Z0 by rw [hw4]; exact Blk.new (((w.alloc (.cells L.toArray 34)).alloc (.cells (row8 salt).toArray 23)).alloc (.cells (row8 m).toArray 25)) 34 Z0 (w.heap.size + 1 + 1 + 1) (by simp))
  have HW4 := Lib.hid hw4
  have HF := Lib.hid (rfresh_any T hT p t _ _ (hv.below W4.out) (ha.below W4.out) (hk.below W4.out))
  rw [← hL, ← hRC] at HF
  have HV := Lib.hid hv
  have HA := Lib.hid ha
  have HK := Lib.hid hk
  have HS := Lib.hid hs
  have HM := Lib.hid hm
  have HT := Lib.hid hT
  have HLE := Lib.hid hL
  have HRT := Lib.hid hRT
  have HRE := Lib.hid hRE
  have HRC := Lib.hid hRC
  have HZE := Lib.hid hZ0
  rw [← hpl] at HF HV ⊢
  rw [← hL, ← hRT, ← hRE]
  clear x1 x2 x3 x4 hw4 hv ha hk hs hm hT hL hRT hRE hRC hZ0 hpl
  by_cases hc : RC = 0
  · subst hc
    obtain ⟨hp5, ht1, ht2⟩ := comes_none HRC.out.symm
    obtain ⟨tn, rfl⟩ : ∃ n : Nat, t = (n : Int) := ⟨t.toNat, by omega⟩
    have htn : 1 ≤ tn ∧ tn ≤ 4096 := by omega
    have HSE := Lib.hid (fun W (hW : Below w.heap.size w W) => rsealed_any p salt m tn (.slice va pl vc) W hp5 HS.out htn.1 htn.2 HM.out (HV.out.below hW) (HA.out.below hW) (HK.out.below hW))
    have HMADE := Lib.hid (made_ok p (t := tn) (by omega) HS.out HM.out)
    obtain ⟨F, hF⟩ : ∃ F, F = slc (made p salt tn m) := ⟨_, rfl⟩
    have F82 := Lib.hid (show F.length = 82 by rw [hF]; exact slc_len HMADE.out)
    have FONE := Lib.hid (show F.toArray.all (·.oneCell') = true by rw [hF]; exact slc_all _)
    have HFE := Lib.hid hF
    rw [← hF] at HSE
    clear hp5 ht1 ht2 htn hF
    go_enter Tryd.func42, Tryd.ntmps42
    go_upto_region 1 with fail
    rw [← HW4.out]
    clear HW4
    go_wp2_with (first
      | (refine wpList_load_mid rfl 34 (.tmp 5) rfl w.heap.size 0 rfl L _ T4.out.range Tryd.underlying34 rfl (by rw [L656.out]; exact infoTr) ?_)
      | (go_at_call 61; (with_reducible refine HF.out.mono ?_); rintro e w5 ⟨rfl, b5⟩; have W5 := Lib.hid (W4.out.on b5); have T5 := Lib.hid (T4.out.below b5 T4.out.lt); have A5 := Lib.hid (A4.out.below b5 A4.out.lt); have K5 := Lib.hid (K4.out.below b5 K4.out.lt); have R5 := Lib.hid (R4.out.below b5 R4.out.lt); clear b5))
    go_loopw [13] (fun x wr => ∃ k : Nat, k ≤ 8 ∧ x = .int .i64 (k : Int) ∧ (∀ j, j < k → (at_ T j).used = true) ∧ Blk wr w.heap.size 34 L ∧ Blk wr (w.heap.size + 1) 23 (row8 salt) ∧ Blk wr (w.heap.size + 1 + 1) 25 (row8 m) ∧ Blk wr (w.heap.size + 1 + 1 + 1) 34 Z0 ∧ Below w.heap.size w wr) (fun x _ => 8 - (intOf x).toNat)
    case atStart => exact ⟨0, by decide, rfl, fun j hj => absurd hj (Nat.not_lt_zero j), T5.out, A5.out, K5.out, R5.out, W5.out⟩
    case round =>
      clear T5 A5 K5 R5 W5 T4 A4 K4 R4 W4
      obtain ⟨k, hk8, rfl, hno, y1, y2, y3, y4, y5⟩ := hrel
      have HNO := Lib.hid hno
      have TR := Lib.hid y1
      have AR := Lib.hid y2
      have KR := Lib.hid y3
      have RR := Lib.hid y4
      have WR := Lib.hid y5
      clear hno y1 y2 y3 y4 y5
      by_cases hlt : k < 8
      · have c0 : wr.cell? ⟨w.heap.size, k * 82, none⟩ = some (.bool (at_ T k).used) := by
          have h := TR.out
          rw [HLE.out] at h
          exact h.usedAt HT.out hlt
        have hklt : (k : Int) < 8 := by omega
        cases hu : (at_ T k).used with
        | true =>
          rw [hu] at c0
          have NO2 := Lib.hid (fun j (hj : j < k + 1) => show (at_ T j).used = true by
            rcases Nat.lt_succ_iff_lt_or_eq.1 hj with h | rfl
            · exact HNO.out j h
            · exact hu)
          go_wp2_with fail
          exact ⟨⟨k + 1, by omega, by go_num, NO2.out, TR.out, AR.out, KR.out, RR.out, WR.out⟩, by simp [intOf]; omega⟩
        | false =>
          rw [hu] at c0
          have hfree := free_some (T := T) (by rw [HT.out.len]; exact hlt) hu HNO.out
          have hRE0 : RE = 0 := by rw [HRE.out]; unfold aerr; rw [if_pos HRC.out.symm, hfree]; rfl
          have hadd : add T p salt (tn : Int) m = T.set k (made p salt tn m) := by
            unfold add
            rw [if_pos (by rw [← HRE.out]; exact hRE0), hfree]; rfl
          obtain ⟨N, hN⟩ : ∃ N, N = tbc (T.set k (made p salt tn m)) := ⟨_, rfl⟩
          have HSPL := Lib.hid (show splice L (k * 82) F = N by rw [HLE.out, HFE.out, hN]; exact tbc_set HT.out.ok k HMADE.out (by rw [HT.out.len]; exact hlt))
          have N656 := Lib.hid (show N.length = 656 by rw [hN]; exact tbc_len (HT.out.set k HMADE.out))
          have NONE := Lib.hid (show N.toArray.all (·.oneCell') = true by rw [hN]; exact tbc_all _)
          have RES : (Ending.returned (.tuple #[.agg N.toArray, .int .i64 0]) : Ending) = .returned (.tuple #[.agg RT.toArray, .int .i64 RE]) := by rw [HRT.out, hadd, hN, hRE0]
          clear hfree hRE0 hadd hN
          go_wp2_with (first
          | (refine wpList_load_mid rfl 23 (.tmp 7) rfl (w.heap.size + 1) 0 rfl (row8 salt) _ AR.out.range Tryd.underlying23 rfl (by rw [A16.out]; exact info162) ?_)
          | (refine wpList_load_mid rfl 25 (.tmp 9) rfl (w.heap.size + 1 + 1) 0 rfl (row8 m) _ KR.out.range Tryd.underlying25 rfl (by rw [M32.out]; exact infoK2) ?_)
          | (go_at_call 62; (with_reducible refine (HSE.out wr WR.out).mono ?_); rintro e w6 ⟨rfl, b6⟩; have W6 := Lib.hid (WR.out.on b6); have T6 := Lib.hid (TR.out.below b6 TR.out.lt); have R6 := Lib.hid (RR.out.below b6 RR.out.lt); clear b6)
          | (refine wpList_store_blk rfl 28 (.tmp 37) (.tmp 36) rfl w.heap.size (k * 82) F rfl rfl 34 L T6.out (by rw [F82.out, L656.out]; omega) (by rw [F82.out]; exact infoSl) FONE.out ?_; intro w7 b7 g7; rw [HSPL.out] at b7; have T7 := Lib.hid b7; have W7 := Lib.hid (W6.out.grown g7 W6.out.size (fun g hg => by have := Option.some.inj hg; omega)); have R7 := Lib.hid (R6.out.grown g7 (fun e => by have := Option.some.inj e; omega)); clear b7 g7)
          | (refine wpList_load_mid rfl 34 (.tmp 5) rfl w.heap.size 0 rfl N _ T7.out.range Tryd.underlying34 rfl (by rw [N656.out]; exact infoTr) ?_)
          | (refine wpList_store_blk rfl 34 (.tmp 10) (.tmp 38) rfl (w.heap.size + 1 + 1 + 1) 0 N rfl rfl 34 Z0 R7.out (by rw [N656.out, hz656]; exact Nat.le_refl _) (by rw [N656.out]; exact infoTr) NONE.out ?_; intro w8 b8 g8; rw [splice_all _ _ (by rw [N656.out, hz656])] at b8; have U8 := Lib.hid b8; have W8 := Lib.hid (W7.out.grown g8 W7.out.size (fun g hg => by have := Option.some.inj hg; omega)); clear b8 g8))
          exact bodyPost_ret (results_mid2 rfl _ _ (w.heap.size + 1 + 1 + 1) N _ rfl U8.out.range Tryd.underlying34 rfl (by rw [N656.out]; exact infoTr)) rfl ⟨Eq.trans (b := Ending.returned (.tuple #[.agg N.toArray, .int .i64 0])) rfl RES, W8.out⟩
      · obtain rfl : k = 8 := by omega
        have hfree := free_none (T := T) fun j hj => HNO.out j (by rw [HT.out.len] at hj; exact hj)
        have hRE0 : RE = 32 := by rw [HRE.out]; unfold aerr; rw [if_pos HRC.out.symm, hfree]; rfl
        have hadd : add T p salt (tn : Int) m = zero := by
          unfold add
          rw [if_neg (by rw [← HRE.out, hRE0]; decide)]
        have RES : (Ending.returned (.tuple #[.agg Z0.toArray, .int .i64 32]) : Ending) = .returned (.tuple #[.agg RT.toArray, .int .i64 RE]) := by rw [HRT.out, hadd, ← HZE.out, hRE0]
        clear hfree hRE0 hadd
        go_wp2_with (first
        | (refine wpList_buildTo rfl 34 _ rfl (some 39) rfl Z0.toArray (Eq.trans (b := Tryd.prog.built 34 []) (by kernel_rfl) hbz) ?_)
        | (refine wpList_store_blk rfl 34 (.tmp 10) (.tmp 39) rfl (w.heap.size + 1 + 1 + 1) 0 Z0 rfl rfl 34 Z0 RR.out (Nat.le_of_eq (Nat.zero_add _)) (by rw [hz656]; exact infoTr) ZONE.out ?_; intro w6 b6 g6; rw [splice_all _ _ rfl] at b6; have U6 := Lib.hid b6; have W6 := Lib.hid (WR.out.grown g6 WR.out.size (fun g hg => by have := Option.some.inj hg; omega)); clear b6 g6))
        exact bodyPost_ret (results_mid2 rfl _ _ (w.heap.size + 1 + 1 + 1) Z0 _ rfl U6.out.range Tryd.underlying34 rfl (by rw [hz656]; exact infoTr)) rfl ⟨Eq.trans (b := Ending.returned (.tuple #[.agg Z0.toArray, .int .i64 32])) rfl RES, W6.out⟩
  · have hRE0 : RE = RC := by rw [HRE.out]; unfold aerr; rw [if_neg (by rw [← HRC.out]; exact hc), HRC.out]
    have hadd : add T p salt t m = zero := by
      unfold add
      rw [if_neg (by rw [← HRE.out, hRE0]; exact hc)]
    have RES : (Ending.returned (.tuple #[.agg Z0.toArray, .int .i64 RC]) : Ending) = .returned (.tuple #[.agg RT.toArray, .int .i64 RE]) := by rw [HRT.out, hadd, ← HZE.out, hRE0]
    clear hRE0 hadd
    go_enter Tryd.func42, Tryd.ntmps42
    go_upto_region 1 with fail
    rw [← HW4.out]
    clear HW4
    go_wp2_with (first
      | (refine wpList_load_mid rfl 34 (.tmp 5) rfl w.heap.size 0 rfl L _ T4.out.range Tryd.underlying34 rfl (by rw [L656.out]; exact infoTr) ?_)
      | (go_at_call 61; (with_reducible refine HF.out.mono ?_); rintro e w5 ⟨rfl, b5⟩; have W5 := Lib.hid (W4.out.on b5); have T5 := Lib.hid (T4.out.below b5 T4.out.lt); have A5 := Lib.hid (A4.out.below b5 A4.out.lt); have K5 := Lib.hid (K4.out.below b5 K4.out.lt); have R5 := Lib.hid (R4.out.below b5 R4.out.lt); clear b5)
      | (refine wpList_buildTo rfl 34 _ rfl (some 20) rfl Z0.toArray (Eq.trans (b := Tryd.prog.built 34 []) (by kernel_rfl) hbz) ?_)
      | (refine wpList_store_blk rfl 34 (.tmp 10) (.tmp 20) rfl (w.heap.size + 1 + 1 + 1) 0 Z0 rfl rfl 34 Z0 R5.out (Nat.le_of_eq (Nat.zero_add _)) (by rw [hz656]; exact infoTr) ZONE.out ?_; intro w6 b6 g6; rw [splice_all _ _ rfl] at b6; have U6 := Lib.hid b6; have W6 := Lib.hid (W5.out.grown g6 W5.out.size (fun g hg => by have := Option.some.inj hg; omega)); clear b6 g6))
    exact bodyPost_ret (results_mid2 rfl _ _ (w.heap.size + 1 + 1 + 1) Z0 _ rfl U6.out.range Tryd.underlying34 rfl (by rw [hz656]; exact infoTr)) rfl ⟨Eq.trans (b := Ending.returned (.tuple #[.agg Z0.toArray, .int .i64 RC])) rfl RES, W6.out⟩
set_option maxRecDepth 100000 in
set_option maxHeartbeats 2000000 in
theorem rremove_any (T : List Slot) (hT : Tok T) (p : List Nat) (v : Value) (w : World) (hv : Rd w v p) (ha : TabA w) (hk : Tab w) :
    Calls Tryd.prog 39 #[.agg (tbc T).toArray, v] w fun e w' => e = .returned (.tuple #[.agg (tbc (remove T p)).toArray, .int .i64 (rerr T p)]) ∧ Below w.heap.size w w' := by
  obtain ⟨va, vc, rfl, _⟩ := hv.shape
  obtain ⟨pl, hpl⟩ : ∃ n, n = p.length := ⟨_, rfl⟩
  obtain ⟨L, hL⟩ : ∃ L, L = tbc T := ⟨_, rfl⟩
  obtain ⟨RK, hRK⟩ : ∃ x, x = okey T p := ⟨_, rfl⟩
  obtain ⟨RI, hRI⟩ : ∃ x, x = oidx T p := ⟨_, rfl⟩
  obtain ⟨RO, hRO⟩ : ∃ x, x = oerr T p := ⟨_, rfl⟩
  obtain ⟨RE, hRE⟩ : ∃ x, x = rerr T p := ⟨_, rfl⟩
  obtain ⟨RT, hRT⟩ : ∃ x, x = tbc (remove T p) := ⟨_, rfl⟩
  obtain ⟨RU, hRU⟩ : ∃ x, x = used T := ⟨_, rfl⟩
  obtain ⟨Z0, hZ0⟩ : ∃ D, D = tbc zero := ⟨_, rfl⟩
  obtain ⟨D0, hD0⟩ : ∃ D, D = row8 (List.replicate 32 0) := ⟨_, rfl⟩
  obtain ⟨D1, hD1⟩ : ∃ D, D = slc none_ := ⟨_, rfl⟩
  have hz : ∀ w, (zeroValue 34).run Tryd.prog w = .ok (.agg Z0.toArray) w := by rw [hZ0]; exact zeroTr
  have hzk : ∀ w, (zeroValue 25).run Tryd.prog w = .ok (.agg D0.toArray) w := by rw [hD0]; exact zeroK2
  have hd0 : D0.length = 32 := by rw [hD0, row8_len, List.length_replicate]
  have hd1 : D1.length = 82 := by rw [hD1]; exact slc_len none_ok
  have hz656 : Z0.length = 656 := by rw [hZ0]; exact tbc_len zero_ok
  have hbz : Tryd.prog.built 34 [] = some Z0.toArray := by rw [hZ0]; exact builtTr
  have hbs : Tryd.prog.built 28 [] = some D1.toArray := by rw [hD1]; exact builtSl
  have ZONE := Lib.hid (show Z0.toArray.all (·.oneCell') = true by rw [hZ0]; exact tbc_all _)
  have DONE := Lib.hid (show D1.toArray.all (·.oneCell') = true by rw [hD1]; exact slc_all _)
  have L656 := Lib.hid (show L.length = 656 by rw [hL]; exact tbc_len hT)
  have K32 := Lib.hid (show (row8 RK).length = 32 by rw [row8_len, hRK]; exact (okey_bytes hT p).1)
  have hri : RI < 8 := by rw [hRI]; exact oidx_lt hT p
  have hru : RU ≤ 8 := by rw [hRU, ← hT.len]; exact used_le T
  have x1 := (Below.refl w.heap.size w).alloc (Nat.le_refl _) (.cells L.toArray 34)
  have x2 := x1.alloc x1.size (.cells Z0.toArray 34)
  obtain ⟨w2, hw2⟩ : ∃ x, x = (w.alloc (.cells L.toArray 34)).alloc (.cells Z0.toArray 34) := ⟨_, rfl⟩
  have W2 := Lib.hid (show Below w.heap.size w w2 by rw [hw2]; exact x2)
  have T2 := Lib.hid (show Blk w2 w.heap.size 34 L by rw [hw2]; exact (Blk.new w _ L _ rfl).alloc _)
  have R2 := Lib.hid (show Blk w2 (w.heap.size + 1) 34 Z0 by rw [hw2]; exact Blk.new (w.alloc (.cells L.toArray 34)) 34 Z0 (w.heap.size + 1) (by simp))
  have HW2 := Lib.hid hw2
  have HO := Lib.hid (ropen_any T hT p _ _ (hv.below W2.out) (ha.below W2.out) (hk.below W2.out))
  rw [← hL, ← hRK, ← hRI, ← hRO, ← hpl] at HO
  have HU := Lib.hid (fun W => rused_any T hT W)
  rw [← hL, ← hRU] at HU
  have HT := Lib.hid hT
  have HLE := Lib.hid hL
  have HRT := Lib.hid hRT
  have HRE := Lib.hid hRE
  have HRO := Lib.hid hRO
  have HRI := Lib.hid hRI
  have HRU := Lib.hid hRU
  have HZE := Lib.hid hZ0
  have HDE := Lib.hid hD1
  rw [← hL, ← hRT, ← hRE, ← hpl]
  clear x1 x2 hw2 hv ha hk hT hL hRT hRE hRO hRI hRU hRK hZ0 hD0 hD1 hpl
  by_cases hc : RO = 0
  · subst hc
    by_cases hu : RU = 1
    · subst hu
      have hRE0 : RE = 31 := by rw [HRE.out]; unfold rerr; rw [if_pos HRO.out.symm, if_pos HRU.out.symm]
      have hadd : remove T p = zero := by unfold remove; rw [if_neg (by rw [← HRE.out, hRE0]; decide)]
      have RES : (Ending.returned (.tuple #[.agg Z0.toArray, .int .i64 31]) : Ending) = .returned (.tuple #[.agg RT.toArray, .int .i64 RE]) := by rw [HRT.out, hadd, ← HZE.out, hRE0]
      clear hRE0 hadd
      go_enter Tryd.func39, Tryd.ntmps39
      go_upto_region 1 with fail
      rw [← HW2.out]
      clear HW2
      go_wp2_with (first
        | (go_at_call 20; (with_reducible refine HO.out.mono ?_); rintro e w3 ⟨rfl, b3⟩; have W3 := Lib.hid (W2.out.on b3); have T3 := Lib.hid (T2.out.below b3 T2.out.lt); have R3 := Lib.hid (R2.out.below b3 R2.out.lt); clear b3)
        | (refine wpList_store_blk rfl 25 (.tmp 6) (.tmp 13) rfl w3.heap.size 0 (row8 RK) rfl rfl 25 D0 (Blk.new w3 25 D0 _ rfl) (by rw [K32.out, hd0]; exact Nat.le_refl _) (by rw [K32.out]; exact infoK2) (row8_one _) ?_; intro w4 b4 g4; have hb4 := alloc_turn (Below.refl _ _) g4; have W4 := Lib.hid (W3.out.on hb4); have T4 := Lib.hid (T3.out.below hb4 T3.out.lt); have R4 := Lib.hid (R3.out.below hb4 R3.out.lt); clear b4 g4 hb4)
        | (go_at_call 14; (with_reducible refine (HU.out w4).mono ?_); rintro e w5 ⟨rfl, b5⟩; have W5 := Lib.hid (W4.out.on b5); have T5 := Lib.hid (T4.out.below b5 T4.out.lt); have R5 := Lib.hid (R4.out.below b5 R4.out.lt); clear b5)
        | (refine wpList_buildTo rfl 34 _ rfl (some 25) rfl Z0.toArray (Eq.trans (b := Tryd.prog.built 34 []) (by kernel_rfl) hbz) ?_)
        | (refine wpList_store_blk rfl 34 (.tmp 4) (.tmp 25) rfl (w.heap.size + 1) 0 Z0 rfl rfl 34 Z0 R5.out (Nat.le_of_eq (Nat.zero_add _)) (by rw [hz656]; exact infoTr) ZONE.out ?_; intro w6 b6 g6; rw [splice_all _ _ rfl] at b6; have U6 := Lib.hid b6; have W6 := Lib.hid (W5.out.grown g6 W5.out.size (fun g hg => by have := Option.some.inj hg; omega)); clear b6 g6)
        | (refine wpList_load_mid rfl 34 (.tmp 2) rfl w.heap.size 0 rfl L _ T4.out.range Tryd.underlying34 rfl (by rw [L656.out]; exact infoTr) ?_)
        | (refine wpList_load_mid rfl 34 (.tmp 2) rfl w.heap.size 0 rfl L _ T2.out.range Tryd.underlying34 rfl (by rw [L656.out]; exact infoTr) ?_))
      exact bodyPost_ret (results_mid2 rfl _ _ (w.heap.size + 1) Z0 _ rfl U6.out.range Tryd.underlying34 rfl (by rw [hz656]; exact infoTr)) rfl ⟨Eq.trans (b := Ending.returned (.tuple #[.agg Z0.toArray, .int .i64 31])) rfl RES, W6.out⟩
    · have hRE0 : RE = 0 := by rw [HRE.out]; unfold rerr; rw [if_pos HRO.out.symm, if_neg (by rw [← HRU.out]; exact hu)]
      have hadd : remove T p = T.set RI none_ := by
        unfold remove
        rw [if_pos (by rw [← HRE.out]; exact hRE0), ← HRI.out]
      obtain ⟨N, hN⟩ : ∃ N, N = tbc (T.set RI none_) := ⟨_, rfl⟩
      have HSPL := Lib.hid (show splice L (RI * 82) D1 = N by rw [HLE.out, HDE.out, hN]; exact tbc_set HT.out.ok RI none_ok (by rw [HT.out.len]; exact hri))
      have N656 := Lib.hid (show N.length = 656 by rw [hN]; exact tbc_len (HT.out.set RI none_ok))
      have NONE := Lib.hid (show N.toArray.all (·.oneCell') = true by rw [hN]; exact tbc_all _)
      have RES : (Ending.returned (.tuple #[.agg N.toArray, .int .i64 0]) : Ending) = .returned (.tuple #[.agg RT.toArray, .int .i64 RE]) := by rw [HRT.out, hadd, hN, hRE0]
      have huz : ¬ (RU : Int) = 1 := by omega
      have hrz : (RI : Int) < 8 := by omega
      clear hRE0 hadd hN hu
      go_enter Tryd.func39, Tryd.ntmps39
      go_upto_region 1 with fail
      rw [← HW2.out]
      clear HW2
      go_wp2_with (first
        | (go_at_call 20; (with_reducible refine HO.out.mono ?_); rintro e w3 ⟨rfl, b3⟩; have W3 := Lib.hid (W2.out.on b3); have T3 := Lib.hid (T2.out.below b3 T2.out.lt); have R3 := Lib.hid (R2.out.below b3 R2.out.lt); clear b3)
        | (refine wpList_store_blk rfl 25 (.tmp 6) (.tmp 13) rfl w3.heap.size 0 (row8 RK) rfl rfl 25 D0 (Blk.new w3 25 D0 _ rfl) (by rw [K32.out, hd0]; exact Nat.le_refl _) (by rw [K32.out]; exact infoK2) (row8_one _) ?_; intro w4 b4 g4; have hb4 := alloc_turn (Below.refl _ _) g4; have W4 := Lib.hid (W3.out.on hb4); have T4 := Lib.hid (T3.out.below hb4 T3.out.lt); have R4 := Lib.hid (R3.out.below hb4 R3.out.lt); clear b4 g4 hb4)
        | (go_at_call 14; (with_reducible refine (HU.out w4).mono ?_); rintro e w5 ⟨rfl, b5⟩; have W5 := Lib.hid (W4.out.on b5); have T5 := Lib.hid (T4.out.below b5 T4.out.lt); have R5 := Lib.hid (R4.out.below b5 R4.out.lt); clear b5)
        | (refine wpList_buildTo rfl 28 _ rfl (some 27) rfl D1.toArray (Eq.trans (b := Tryd.prog.built 28 []) (by kernel_rfl) hbs) ?_)
        | (refine wpList_store_blk rfl 28 (.tmp 28) (.tmp 27) rfl w.heap.size (RI * 82) D1 rfl rfl 34 L T5.out (by rw [hd1, L656.out]; omega) (by rw [hd1]; exact infoSl) DONE.out ?_; intro w7 b7 g7; rw [HSPL.out] at b7; have T7 := Lib.hid b7; have W7 := Lib.hid (W5.out.grown g7 W5.out.size (fun g hg => by have := Option.some.inj hg; omega)); have R7 := Lib.hid (R5.out.grown g7 (fun e => by have := Option.some.inj e; omega)); clear b7 g7)
        | (refine wpList_load_mid rfl 34 (.tmp 2) rfl w.heap.size 0 rfl N _ T7.out.range Tryd.underlying34 rfl (by rw [N656.out]; exact infoTr) ?_)
        | (refine wpList_store_blk rfl 34 (.tmp 4) (.tmp 29) rfl (w.heap.size + 1) 0 N rfl rfl 34 Z0 R7.out (by rw [N656.out, hz656]; exact Nat.le_refl _) (by rw [N656.out]; exact infoTr) NONE.out ?_; intro w8 b8 g8; rw [splice_all _ _ (by rw [N656.out, hz656])] at b8; have U8 := Lib.hid b8; have W8 := Lib.hid (W7.out.grown g8 W7.out.size (fun g hg => by have := Option.some.inj hg; omega)); clear b8 g8)
        | (refine wpList_load_mid rfl 34 (.tmp 2) rfl w.heap.size 0 rfl L _ T4.out.range Tryd.underlying34 rfl (by rw [L656.out]; exact infoTr) ?_)
        | (refine wpList_load_mid rfl 34 (.tmp 2) rfl w.heap.size 0 rfl L _ T2.out.range Tryd.underlying34 rfl (by rw [L656.out]; exact infoTr) ?_))
      exact bodyPost_ret (results_mid2 rfl _ _ (w.heap.size + 1) N _ rfl U8.out.range Tryd.underlying34 rfl (by rw [N656.out]; exact infoTr)) rfl ⟨Eq.trans (b := Ending.returned (.tuple #[.agg N.toArray, .int .i64 0])) rfl RES, W8.out⟩
  · have hRE0 : RE = RO := by rw [HRE.out]; unfold rerr; rw [if_neg (by rw [← HRO.out]; exact hc), HRO.out]
    have hadd : remove T p = zero := by unfold remove; rw [if_neg (by rw [← HRE.out, hRE0]; exact hc)]
    have RES : (Ending.returned (.tuple #[.agg Z0.toArray, .int .i64 RO]) : Ending) = .returned (.tuple #[.agg RT.toArray, .int .i64 RE]) := by rw [HRT.out, hadd, ← HZE.out, hRE0]
    clear hRE0 hadd
    go_enter Tryd.func39, Tryd.ntmps39
    go_upto_region 1 with fail
    rw [← HW2.out]
    clear HW2
    go_wp2_with (first
      | (refine wpList_load_mid rfl 34 (.tmp 2) rfl w.heap.size 0 rfl L _ T2.out.range Tryd.underlying34 rfl (by rw [L656.out]; exact infoTr) ?_)
      | (go_at_call 20; (with_reducible refine HO.out.mono ?_); rintro e w3 ⟨rfl, b3⟩; have W3 := Lib.hid (W2.out.on b3); have T3 := Lib.hid (T2.out.below b3 T2.out.lt); have R3 := Lib.hid (R2.out.below b3 R2.out.lt); clear b3)
      | (refine wpList_store_blk rfl 25 (.tmp 6) (.tmp 13) rfl w3.heap.size 0 (row8 RK) rfl rfl 25 D0 (Blk.new w3 25 D0 _ rfl) (by rw [K32.out, hd0]; exact Nat.le_refl _) (by rw [K32.out]; exact infoK2) (row8_one _) ?_; intro w4 b4 g4; have hb4 := alloc_turn (Below.refl _ _) g4; have W4 := Lib.hid (W3.out.on hb4); have T4 := Lib.hid (T3.out.below hb4 T3.out.lt); have R4 := Lib.hid (R3.out.below hb4 R3.out.lt); clear b4 g4 hb4)
      | (refine wpList_buildTo rfl 34 _ rfl (some 19) rfl Z0.toArray (Eq.trans (b := Tryd.prog.built 34 []) (by kernel_rfl) hbz) ?_)
      | (refine wpList_store_blk rfl 34 (.tmp 4) (.tmp 19) rfl (w.heap.size + 1) 0 Z0 rfl rfl 34 Z0 R4.out (Nat.le_of_eq (Nat.zero_add _)) (by rw [hz656]; exact infoTr) ZONE.out ?_; intro w6 b6 g6; rw [splice_all _ _ rfl] at b6; have U6 := Lib.hid b6; have W6 := Lib.hid (W4.out.grown g6 W4.out.size (fun g hg => by have := Option.some.inj hg; omega)); clear b6 g6))
    exact bodyPost_ret (results_mid2 rfl _ _ (w.heap.size + 1) Z0 _ rfl U6.out.range Tryd.underlying34 rfl (by rw [hz656]; exact infoTr)) rfl ⟨Eq.trans (b := Ending.returned (.tuple #[.agg Z0.toArray, .int .i64 RO])) rfl RES, W6.out⟩
set_option maxRecDepth 100000 in
set_option maxHeartbeats 2000000 in
theorem rrotate_any (T : List Slot) (hT : Tok T) (p q salt : List Nat) (t : Int) (u v : Value) (w : World) (hs : Bytes 16 salt) (hu : Rd w u p) (hv : Rd w v q) (ha : TabA w) (hk : Tab w) :
    Calls Tryd.prog 41 #[.agg (tbc T).toArray, u, v, .agg (row8 salt).toArray, .int .i64 t] w fun e w' => e = .returned (.tuple #[.agg (tbc (rotate T p q salt t)).toArray, .int .i64 (terr T p q t)]) ∧ Below w.heap.size w w' := by
  obtain ⟨ua, uc, rfl, _⟩ := hu.shape
  obtain ⟨va, vc, rfl, _⟩ := hv.shape
  obtain ⟨pl, hpl⟩ : ∃ n, n = p.length := ⟨_, rfl⟩
  obtain ⟨ql, hql⟩ : ∃ n, n = q.length := ⟨_, rfl⟩
  obtain ⟨L, hL⟩ : ∃ L, L = tbc T := ⟨_, rfl⟩
  obtain ⟨RK, hRK⟩ : ∃ x, x = okey T p := ⟨_, rfl⟩
  obtain ⟨RI, hRI⟩ : ∃ x, x = oidx T p := ⟨_, rfl⟩
  obtain ⟨RO, hRO⟩ : ∃ x, x = oerr T p := ⟨_, rfl⟩
  obtain ⟨RC, hRC⟩ : ∃ x, x = comes T q t := ⟨_, rfl⟩
  obtain ⟨RE, hRE⟩ : ∃ x, x = terr T p q t := ⟨_, rfl⟩
  obtain ⟨RT, hRT⟩ : ∃ x, x = tbc (rotate T p q salt t) := ⟨_, rfl⟩
  obtain ⟨Z0, hZ0⟩ : ∃ D, D = tbc zero := ⟨_, rfl⟩
  obtain ⟨D0, hD0⟩ : ∃ D, D = row8 (List.replicate 32 0) := ⟨_, rfl⟩
  have hz : ∀ w, (zeroValue 34).run Tryd.prog w = .ok (.agg Z0.toArray) w := by rw [hZ0]; exact zeroTr
  have hzk : ∀ w, (zeroValue 25).run Tryd.prog w = .ok (.agg D0.toArray) w := by rw [hD0]; exact zeroK2
  have hd0 : D0.length = 32 := by rw [hD0, row8_len, List.length_replicate]
  have hz656 : Z0.length = 656 := by rw [hZ0]; exact tbc_len zero_ok
  have hbz : Tryd.prog.built 34 [] = some Z0.toArray := by rw [hZ0]; exact builtTr
  have ZONE := Lib.hid (show Z0.toArray.all (·.oneCell') = true by rw [hZ0]; exact tbc_all _)
  have L656 := Lib.hid (show L.length = 656 by rw [hL]; exact tbc_len hT)
  have A16 := Lib.hid (show (row8 salt).length = 16 by rw [row8_len]; exact hs.1)
  have BRK := Lib.hid (show Bytes 32 RK by rw [hRK]; exact okey_bytes hT p)
  have K32 := Lib.hid (show (row8 RK).length = 32 by rw [row8_len]; exact BRK.out.1)
  have hri : RI < 8 := by rw [hRI]; exact oidx_lt hT p
  have x1 := (Below.refl w.heap.size w).alloc (Nat.le_refl _) (.cells L.toArray 34)
  have x2 := x1.alloc x1.size (.cells (row8 salt).toArray 23)
  have x3 := x2.alloc x2.size (.cells Z0.toArray 34)
  obtain ⟨w3, hw3⟩ : ∃ x, x = ((w.alloc (.cells L.toArray 34)).alloc (.cells (row8 salt).toArray 23)).alloc (.cells Z0.toArray 34) := ⟨_, rfl⟩
  have W3 := Lib.hid (show Below w.heap.size w w3 by rw [hw3]; exact x3)
  have T3 := Lib.hid (show Blk w3 w.heap.size 34 L by rw [hw3]; exact ((Blk.new w _ L _ rfl).alloc _).alloc _)
  have A3 := Lib.hid (show Blk w3 (w.heap.size + 1) 23 (row8 salt) by rw [hw3]; exact (Blk.new (w.alloc (.cells L.toArray 34)) 23 (row8 salt) (w.heap.size + 1) (by simp)).alloc _)
  have R3 := Lib.hid (show Blk w3 (w.heap.size + 1 + 1) 34 Z0 by rw [hw3]; exact Blk.new ((w.alloc (.cells L.toArray 34)).alloc (.cells (row8 salt).toArray 23)) 34 Z0 (w.heap.size + 1 + 1) (by simp))
  have HW3 := Lib.hid hw3
  have HO := Lib.hid (ropen_any T hT p _ _ (hu.below W3.out) (ha.below W3.out) (hk.below W3.out))
  rw [← hL, ← hRK, ← hRI, ← hRO, ← hpl] at HO
  have HF := Lib.hid (fun W (hW : Below w.heap.size w W) => rfresh_any T hT q t _ W (hv.below hW) (ha.below hW) (hk.below hW))
  rw [← hL, ← hRC, ← hql] at HF
  have HV := Lib.hid hv
  have HA := Lib.hid ha
  have HK := Lib.hid hk
  have HS := Lib.hid hs
  have HT := Lib.hid hT
  have HLE := Lib.hid hL
  have HRT := Lib.hid hRT
  have HRE := Lib.hid hRE
  have HRO := Lib.hid hRO
  have HRI := Lib.hid hRI
  have HRC := Lib.hid hRC
  have HRK := Lib.hid hRK
  have HZE := Lib.hid hZ0
  rw [← hql] at HV
  rw [← hL, ← hRT, ← hRE, ← hpl, ← hql]
  clear x1 x2 x3 hw3 hu hv ha hk hs hT hL hRT hRE hRO hRI hRC hRK hZ0 hD0 hpl hql
  by_cases hc : RO = 0
  · subst hc
    by_cases hf : RC = 0
    · subst hf
      obtain ⟨hq5, ht1, ht2⟩ := comes_none HRC.out.symm
      obtain ⟨tn, rfl⟩ : ∃ n : Nat, t = (n : Int) := ⟨t.toNat, by omega⟩
      have htn : 1 ≤ tn ∧ tn ≤ 4096 := by omega
      have HSE := Lib.hid (fun W (hW : Below w.heap.size w W) => rsealed_any q salt RK tn (.slice va ql vc) W hq5 HS.out htn.1 htn.2 BRK.out (HV.out.below hW) (HA.out.below hW) (HK.out.below hW))
      have HMADE := Lib.hid (made_ok q (t := tn) (by omega) HS.out BRK.out)
      obtain ⟨F, hF⟩ : ∃ F, F = slc (made q salt tn RK) := ⟨_, rfl⟩
      have F82 := Lib.hid (show F.length = 82 by rw [hF]; exact slc_len HMADE.out)
      have FONE := Lib.hid (show F.toArray.all (·.oneCell') = true by rw [hF]; exact slc_all _)
      have HFE := Lib.hid hF
      rw [← hF] at HSE
      have hRE0 : RE = 0 := by rw [HRE.out]; unfold terr; rw [if_pos HRO.out.symm, ← HRC.out]
      have hadd : rotate T p q salt (tn : Int) = T.set RI (made q salt tn RK) := by
        unfold rotate
        rw [if_pos (by rw [← HRE.out]; exact hRE0), ← HRI.out, ← HRK.out]; rfl
      obtain ⟨N, hN⟩ : ∃ N, N = tbc (T.set RI (made q salt tn RK)) := ⟨_, rfl⟩
      have HSPL := Lib.hid (show splice L (RI * 82) F = N by rw [HLE.out, HFE.out, hN]; exact tbc_set HT.out.ok RI HMADE.out (by rw [HT.out.len]; exact hri))
      have N656 := Lib.hid (show N.length = 656 by rw [hN]; exact tbc_len (HT.out.set RI HMADE.out))
      have NONE := Lib.hid (show N.toArray.all (·.oneCell') = true by rw [hN]; exact tbc_all _)
      have RES : (Ending.returned (.tuple #[.agg N.toArray, .int .i64 0]) : Ending) = .returned (.tuple #[.agg RT.toArray, .int .i64 RE]) := by rw [HRT.out, hadd, hN, hRE0]
      have hrz : (RI : Int) < 8 := by omega
      clear hRE0 hadd hN hq5 ht1 ht2 htn hF
      go_enter Tryd.func41, Tryd.ntmps41
      go_upto_region 1 with fail
      rw [← HW3.out]
      clear HW3
      go_wp2_with (first
        | (go_at_call 20; (with_reducible refine HO.out.mono ?_); rintro e w4 ⟨rfl, b⟩; have W4 := Lib.hid (W3.out.on b); have T4 := Lib.hid (T3.out.below b T3.out.lt); have A4 := Lib.hid (A3.out.below b A3.out.lt); have R4 := Lib.hid (R3.out.below b R3.out.lt); clear b)
        | (refine wpList_store_blk rfl 25 (.tmp 12) (.tmp 19) rfl w4.heap.size 0 (row8 RK) rfl rfl 25 D0 (Blk.new w4 25 D0 _ rfl) (by rw [K32.out, hd0]; exact Nat.le_refl _) (by rw [K32.out]; exact infoK2) (row8_one _) ?_; intro w5 b g; rw [splice_all _ _ (by rw [K32.out, hd0])] at b; have hb5 := alloc_turn (Below.refl _ _) g; have K5 := Lib.hid b; have W5 := Lib.hid (W4.out.on hb5); have T5 := Lib.hid (T4.out.below hb5 T4.out.lt); have A5 := Lib.hid (A4.out.below hb5 A4.out.lt); have R5 := Lib.hid (R4.out.below hb5 R4.out.lt); have N5 := Lib.hid (show w.heap.size + 1 + 1 < w4.heap.size from R4.out.lt); clear b g hb5)
        | (go_at_call 61; (with_reducible refine (HF.out w5 W5.out).mono ?_); rintro e w6 ⟨rfl, b⟩; have W6 := Lib.hid (W5.out.on b); have T6 := Lib.hid (T5.out.below b T5.out.lt); have A6 := Lib.hid (A5.out.below b A5.out.lt); have R6 := Lib.hid (R5.out.below b R5.out.lt); have K6 := Lib.hid (K5.out.below b K5.out.lt); clear b)
        | (refine wpList_load_mid rfl 23 (.tmp 8) rfl (w.heap.size + 1) 0 rfl (row8 salt) _ A6.out.range Tryd.underlying23 rfl (by rw [A16.out]; exact info162) ?_)
        | (refine wpList_load_mid rfl 25 (.tmp 12) rfl w4.heap.size 0 rfl (row8 RK) _ K6.out.range Tryd.underlying25 rfl (by rw [K32.out]; exact infoK2) ?_)
        | (go_at_call 62; (with_reducible refine (HSE.out w6 W6.out).mono ?_); rintro e w7 ⟨rfl, b⟩; have W7 := Lib.hid (W6.out.on b); have T7 := Lib.hid (T6.out.below b T6.out.lt); have R7 := Lib.hid (R6.out.below b R6.out.lt); clear b)
        | (refine wpList_store_blk rfl 28 (.tmp 40) (.tmp 39) rfl w.heap.size (RI * 82) F rfl rfl 34 L T7.out (by rw [F82.out, L656.out]; omega) (by rw [F82.out]; exact infoSl) FONE.out ?_; intro w8 b g; rw [HSPL.out] at b; have T8 := Lib.hid b; have W8 := Lib.hid (W7.out.grown g W7.out.size (fun g hg => by have := Option.some.inj hg; omega)); have R8 := Lib.hid (R7.out.grown g (fun e => by have := Option.some.inj e; omega)); clear b g)
        | (refine wpList_load_mid rfl 34 (.tmp 5) rfl w.heap.size 0 rfl N _ T8.out.range Tryd.underlying34 rfl (by rw [N656.out]; exact infoTr) ?_)
        | (refine wpList_store_blk rfl 34 (.tmp 10) (.tmp 41) rfl (w.heap.size + 1 + 1) 0 N rfl rfl 34 Z0 R8.out (by rw [N656.out, hz656]; exact Nat.le_refl _) (by rw [N656.out]; exact infoTr) NONE.out ?_; intro w9 b g; rw [splice_all _ _ (by rw [N656.out, hz656])] at b; have U9 := Lib.hid b; have W9 := Lib.hid (W8.out.grown g W8.out.size (fun g hg => by have := Option.some.inj hg; omega)); clear b g)
        | (refine wpList_load_mid rfl 34 (.tmp 5) rfl w.heap.size 0 rfl L _ T5.out.range Tryd.underlying34 rfl (by rw [L656.out]; exact infoTr) ?_)
        | (refine wpList_load_mid rfl 34 (.tmp 5) rfl w.heap.size 0 rfl L _ T3.out.range Tryd.underlying34 rfl (by rw [L656.out]; exact infoTr) ?_))
      exact bodyPost_ret (results_mid2 rfl _ _ (w.heap.size + 1 + 1) N _ rfl U9.out.range Tryd.underlying34 rfl (by rw [N656.out]; exact infoTr)) rfl ⟨Eq.trans (b := Ending.returned (.tuple #[.agg N.toArray, .int .i64 0])) rfl RES, W9.out⟩
    · have hRE0 : RE = RC := by rw [HRE.out]; unfold terr; rw [if_pos HRO.out.symm, HRC.out]
      have hadd : rotate T p q salt t = zero := by unfold rotate; rw [if_neg (by rw [← HRE.out, hRE0]; exact hf)]
      have RES : (Ending.returned (.tuple #[.agg Z0.toArray, .int .i64 RC]) : Ending) = .returned (.tuple #[.agg RT.toArray, .int .i64 RE]) := by rw [HRT.out, hadd, ← HZE.out, hRE0]
      clear hRE0 hadd
      go_enter Tryd.func41, Tryd.ntmps41
      go_upto_region 1 with fail
      rw [← HW3.out]
      clear HW3
      go_wp2_with (first
        | (go_at_call 20; (with_reducible refine HO.out.mono ?_); rintro e w4 ⟨rfl, b⟩; have W4 := Lib.hid (W3.out.on b); have T4 := Lib.hid (T3.out.below b T3.out.lt); have A4 := Lib.hid (A3.out.below b A3.out.lt); have R4 := Lib.hid (R3.out.below b R3.out.lt); clear b)
        | (refine wpList_store_blk rfl 25 (.tmp 12) (.tmp 19) rfl w4.heap.size 0 (row8 RK) rfl rfl 25 D0 (Blk.new w4 25 D0 _ rfl) (by rw [K32.out, hd0]; exact Nat.le_refl _) (by rw [K32.out]; exact infoK2) (row8_one _) ?_; intro w5 b g; rw [splice_all _ _ (by rw [K32.out, hd0])] at b; have hb5 := alloc_turn (Below.refl _ _) g; have K5 := Lib.hid b; have W5 := Lib.hid (W4.out.on hb5); have T5 := Lib.hid (T4.out.below hb5 T4.out.lt); have A5 := Lib.hid (A4.out.below hb5 A4.out.lt); have R5 := Lib.hid (R4.out.below hb5 R4.out.lt); have N5 := Lib.hid (show w.heap.size + 1 + 1 < w4.heap.size from R4.out.lt); clear b g hb5)
        | (go_at_call 61; (with_reducible refine (HF.out w5 W5.out).mono ?_); rintro e w6 ⟨rfl, b⟩; have W6 := Lib.hid (W5.out.on b); have T6 := Lib.hid (T5.out.below b T5.out.lt); have A6 := Lib.hid (A5.out.below b A5.out.lt); have R6 := Lib.hid (R5.out.below b R5.out.lt); have K6 := Lib.hid (K5.out.below b K5.out.lt); clear b)
        | (refine wpList_buildTo rfl 34 _ rfl (some 32) rfl Z0.toArray (Eq.trans (b := Tryd.prog.built 34 []) (by kernel_rfl) hbz) ?_)
        | (refine wpList_store_blk rfl 34 (.tmp 10) (.tmp 32) rfl (w.heap.size + 1 + 1) 0 Z0 rfl rfl 34 Z0 R6.out (Nat.le_of_eq (Nat.zero_add _)) (by rw [hz656]; exact infoTr) ZONE.out ?_; intro w9 b g; rw [splice_all _ _ rfl] at b; have U9 := Lib.hid b; have W9 := Lib.hid (W6.out.grown g W6.out.size (fun g hg => by have := Option.some.inj hg; omega)); clear b g)
        | (refine wpList_load_mid rfl 34 (.tmp 5) rfl w.heap.size 0 rfl L _ T5.out.range Tryd.underlying34 rfl (by rw [L656.out]; exact infoTr) ?_)
        | (refine wpList_load_mid rfl 34 (.tmp 5) rfl w.heap.size 0 rfl L _ T3.out.range Tryd.underlying34 rfl (by rw [L656.out]; exact infoTr) ?_))
      exact bodyPost_ret (results_mid2 rfl _ _ (w.heap.size + 1 + 1) Z0 _ rfl U9.out.range Tryd.underlying34 rfl (by rw [hz656]; exact infoTr)) rfl ⟨Eq.trans (b := Ending.returned (.tuple #[.agg Z0.toArray, .int .i64 RC])) rfl RES, W9.out⟩
  · have hRE0 : RE = RO := by rw [HRE.out]; unfold terr; rw [if_neg (by rw [← HRO.out]; exact hc), HRO.out]
    have hadd : rotate T p q salt t = zero := by unfold rotate; rw [if_neg (by rw [← HRE.out, hRE0]; exact hc)]
    have RES : (Ending.returned (.tuple #[.agg Z0.toArray, .int .i64 RO]) : Ending) = .returned (.tuple #[.agg RT.toArray, .int .i64 RE]) := by rw [HRT.out, hadd, ← HZE.out, hRE0]
    clear hRE0 hadd
    go_enter Tryd.func41, Tryd.ntmps41
    go_upto_region 1 with fail
    rw [← HW3.out]
    clear HW3
    go_wp2_with (first
      | (go_at_call 20; (with_reducible refine HO.out.mono ?_); rintro e w4 ⟨rfl, b⟩; have W4 := Lib.hid (W3.out.on b); have T4 := Lib.hid (T3.out.below b T3.out.lt); have A4 := Lib.hid (A3.out.below b A3.out.lt); have R4 := Lib.hid (R3.out.below b R3.out.lt); clear b)
      | (refine wpList_store_blk rfl 25 (.tmp 12) (.tmp 19) rfl w4.heap.size 0 (row8 RK) rfl rfl 25 D0 (Blk.new w4 25 D0 _ rfl) (by rw [K32.out, hd0]; exact Nat.le_refl _) (by rw [K32.out]; exact infoK2) (row8_one _) ?_; intro w5 b g; rw [splice_all _ _ (by rw [K32.out, hd0])] at b; have hb5 := alloc_turn (Below.refl _ _) g; have K5 := Lib.hid b; have W5 := Lib.hid (W4.out.on hb5); have T5 := Lib.hid (T4.out.below hb5 T4.out.lt); have A5 := Lib.hid (A4.out.below hb5 A4.out.lt); have R5 := Lib.hid (R4.out.below hb5 R4.out.lt); have N5 := Lib.hid (show w.heap.size + 1 + 1 < w4.heap.size from R4.out.lt); clear b g hb5)
      | (refine wpList_buildTo rfl 34 _ rfl (some 24) rfl Z0.toArray (Eq.trans (b := Tryd.prog.built 34 []) (by kernel_rfl) hbz) ?_)
      | (refine wpList_store_blk rfl 34 (.tmp 10) (.tmp 24) rfl (w.heap.size + 1 + 1) 0 Z0 rfl rfl 34 Z0 R5.out (Nat.le_of_eq (Nat.zero_add _)) (by rw [hz656]; exact infoTr) ZONE.out ?_; intro w9 b g; rw [splice_all _ _ rfl] at b; have U9 := Lib.hid b; have W9 := Lib.hid (W5.out.grown g W5.out.size (fun g hg => by have := Option.some.inj hg; omega)); clear b g)
      | (refine wpList_load_mid rfl 34 (.tmp 5) rfl w.heap.size 0 rfl L _ T3.out.range Tryd.underlying34 rfl (by rw [L656.out]; exact infoTr) ?_))
    exact bodyPost_ret (results_mid2 rfl _ _ (w.heap.size + 1 + 1) Z0 _ rfl U9.out.range Tryd.underlying34 rfl (by rw [hz656]; exact infoTr)) rfl ⟨Eq.trans (b := Ending.returned (.tuple #[.agg Z0.toArray, .int .i64 RO])) rfl RES, W9.out⟩
end Go.Proofs.YtbepchikngoknaaDoor
