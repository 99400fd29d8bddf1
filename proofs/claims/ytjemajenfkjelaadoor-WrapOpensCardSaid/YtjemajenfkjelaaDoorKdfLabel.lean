/- The document's key of a key: contract. Own work. -/
import Derived.Test.YtjemajenfkjelaaDoorKdfMath
import Derived.Test.YtjemajenfkjelaaDoorHmacR
import Derived.Test.YtjemajenfkjelaaDoorStrConv
import Derived.Test.YtjemajenfkjelaaDoorMem
namespace Go.Proofs.YtjemajenfkjelaaDoor
open Go.ChangeShapes Go.WideShapes Go.ChangeAt Go.RowKit
open SM
theorem sb_append (a b : ByteArray) : sb (a ++ b) = sb a ++ sb b := by
  unfold sb
  rw [show (a ++ b).data.toList = a.data.toList ++ b.data.toList by simp]
  simp
theorem infoKey : (Tryd.prog.info? 23).map (·.size) = some 32 := by kernel_rfl
set_option maxRecDepth 100000 in
set_option maxHeartbeats 2000000 in
theorem rlabel_any (K : List Nat) (hK : Bytes 32 K) (s : ByteArray) (hs : s.size ≤ 140737488351232) (w : World) (ht : Tab w) :
    Calls Tryd.prog 19 #[.agg (row8 K).toArray, .string s] w fun e w' => e = .returned (.agg (row8 (klabel K (sb s))).toArray) ∧ Below w.heap.size w w' := by
  obtain ⟨M, hM⟩ : ∃ M, M = klabel K (sb s) := ⟨_, rfl⟩
  have bM : Bytes 32 M := by rw [hM]; exact sha_bytes _
  rw [← hM]
  have HMM := Lib.hid hM
  have HK := Lib.hid hK
  have HT := Lib.hid ht
  have K32 := Lib.hid (show (row8 K).length = 32 by rw [row8_len]; exact hK.1)
  have M32 := Lib.hid (show (row8 M).length = 32 by rw [row8_len]; exact bM.1)
  obtain ⟨D0, hD0⟩ : ∃ C0, C0 = row8 (List.replicate 32 0) := ⟨_, rfl⟩
  have hzk : ∀ w, (zeroValue 23).run Tryd.prog w = .ok (.agg D0.toArray) w := by
    rw [hD0]; intro w; kernel_rfl
  have hd0 : D0.length = 32 := by rw [hD0, row8_len, List.length_replicate]
  have n0 := Blk.new w 23 (row8 K) _ rfl
  have w1 := (Below.refl w.heap.size w).alloc (Nat.le_refl _) (.cells (row8 K).toArray 23)
  have w2 := w1.alloc w1.size (.cells D0.toArray 23)
  have N2 := Lib.hid (n0.alloc (.cells D0.toArray 23))
  have R2 := Lib.hid (Blk.new (w.alloc (.cells (row8 K).toArray 23)) 23 D0 (w.heap.size + 1) (by simp))
  have W2 := Lib.hid w2
  have HS := Lib.hid (show (sb ⟨#[114, 101, 108, 105, 113, 117, 97, 114, 121, 32]⟩ ++ sb s) = SM.ahead ++ sb s from rfl)
  clear hM bM hK ht hD0 n0 w1 w2
  go_enter Tryd.func19, Tryd.ntmps19
  go_wp2_with (first
    | ((with_reducible show wpList _ _ _ _ _ _); refine wpList_conv_str rfl (.tmp 7) rfl (⟨#[114, 101, 108, 105, 113, 117, 97, 114, 121, 32]⟩ ++ s) rfl (by rw [ByteArray.size_append]; have : (⟨#[114, 101, 108, 105, 113, 117, 97, 114, 121, 32]⟩ : ByteArray).size = 10 := rfl; omega) ?_; intro b cap w3 hb hr b3 hlt; rw [sb_append, HS.out, show ((⟨#[114, 101, 108, 105, 113, 117, 97, 114, 121, 32]⟩ : ByteArray) ++ s).size = 10 + s.size from ByteArray.size_append] at hr; have B3 := Lib.hid (W2.out.on b3); have R3 := Lib.hid (R2.out.below b3 R2.out.lt); have N3 := Lib.hid (N2.out.below b3 N2.out.lt); have k3 := blk_rd (N2.out.below b3 N2.out.lt) HK.out.2 (n := 32) (cap := 32) (by rw [HK.out.1]; omega) (by omega) (by rw [HK.out.1]; omega); rw [List.take_of_length_le (by rw [HK.out.1]; omega)] at k3; have F3 := Lib.hid (rmac_any K (SM.ahead ++ sb s) (by rw [HK.out.1]; omega) (by rw [List.length_append, sb_len]; have : SM.ahead.length = 10 := rfl; omega) _ _ w3 k3 hr (HT.out.below (W2.out.on b3))); rw [show mac K (SM.ahead ++ sb s) = M from HMM.out.symm] at F3; clear hr b3 k3 hb hlt)
    | (go_at_call 20; (with_reducible refine F3.out.mono ?_); rintro e w4 ⟨rfl, b4⟩; have B4 := Lib.hid (B3.out.on b4); have R4 := Lib.hid (R3.out.below b4 R3.out.lt); clear b4)
    | (refine wpList_store_mid rfl 23 (.tmp 4) (.tmp 9) rfl (w.heap.size + 1) 0 (row8 M).toArray rfl rfl (R4.out.there _ (by rw [List.size_toArray, M32.out, hd0])) (by rw [List.size_toArray, M32.out]; exact infoKey) (row8_one _) ?_))
  have fin := R4.out.whole (row8 M) (by rw [M32.out, hd0])
  exact bodyPost_ret (v := .agg (row8 M).toArray) (results_mid rfl _ _ (w.heap.size + 1) (row8 M) _ rfl fin.range Tryd.underlying23 rfl (by rw [M32.out]; exact infoKey)) rfl ⟨rfl, below_setCells (w.heap.size + 1) (by omega) _ 0 _ B4.out⟩
end Go.Proofs.YtjemajenfkjelaaDoor
