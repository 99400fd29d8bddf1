/- The program's key of a key: contract. Own work. -/
import Derived.Test.YtjemajenfkjelaaDoorKdfMath
import Derived.Test.YtjemajenfkjelaaDoorHmacA
import Derived.Test.YtjemajenfkjelaaDoorStrConv
import Derived.Test.YtjemajenfkjelaaDoorRdConst
import Derived.Lib.SlBytesConst
namespace Go.Proofs.YtjemajenfkjelaaDoor
open Go.ChangeShapes Go.WideShapes Go.ChangeAt Go.RowKit
open SM
theorem infoKeyL : (Tryd.prog.info? 23).map (·.size) = some 32 := by kernel_rfl
set_option maxRecDepth 100000 in
set_option maxHeartbeats 2000000 in
theorem klabel_any (K : List Nat) (hK : Bytes 32 K) (s : ByteArray) (hs : s.size ≤ 140737488355328) (w : World) (ht : TabP w) :
    Calls Tryd.prog 17 #[.agg (row8 K).toArray, .string s] w fun e w' => e = .returned (.agg (row8 (klabel K (sb s))).toArray) ∧ Below w.heap.size w w' := by
  obtain ⟨M, hM⟩ : ∃ M, M = klabel K (sb s) := ⟨_, rfl⟩
  have bM : Bytes 32 M := by rw [hM]; exact sha_bytes _
  rw [← hM]
  have HMM := Lib.hid hM
  have HK := Lib.hid hK
  have HT := Lib.hid ht
  have K32 := Lib.hid (show (row8 K).length = 32 by rw [row8_len]; exact hK.1)
  have M32 := Lib.hid (show (row8 M).length = 32 by rw [row8_len]; exact bM.1)
  obtain ⟨D0, hD0⟩ : ∃ C0, C0 = row8 (List.replicate 32 0) := ⟨_, rfl⟩
  have hzk : ∀ w, (zeroValue 23).run Tryd.prog w = .ok (.agg D0.toArray) w := by
    rw [hD0]; intro w; kernel_rfl
  have hd0 : D0.length = 32 := by rw [hD0, row8_len, List.length_replicate]

  have w1 := (Below.refl w.heap.size w).alloc (Nat.le_refl _) (.cells (row8 K).toArray 23)
  have w2 := w1.alloc w1.size (.cells D0.toArray 23)
  have w3 := w2.alloc w2.size (.cells (row8 SM.ahead).toArray 5 (10, 11))
  have N3 := Lib.hid (((Blk.new w 23 (row8 K) _ rfl).alloc (.cells D0.toArray 23)).alloc (.cells (row8 SM.ahead).toArray 5 (10, 11)))
  have R3 := Lib.hid ((Blk.new (w.alloc (.cells (row8 K).toArray 23)) 23 D0 (w.heap.size + 1) (by simp)).alloc (.cells (row8 SM.ahead).toArray 5 (10, 11)))
  have A3 := Lib.hid (rd_const ((w.alloc (.cells (row8 K).toArray 23)).alloc (.cells D0.toArray 23)) SM.ahead (small_bytes (by decide)) (by decide) 10 rfl (w.heap.size + 1 + 1) (by simp) (10, 11))
  have W3 := Lib.hid w3
  have kc := fun (C : Array Value) (n c : Nat) => Lib.run_convert_bytes_const (P := Tryd.prog) ((w.alloc (.cells (row8 K).toArray 23)).alloc (.cells D0.toArray 23)) 42 5 C n c Tryd.underlying42 Tryd.underlying5
  have hsz : ((w.alloc (.cells (row8 K).toArray 23)).alloc (.cells D0.toArray 23)).heap.size = w.heap.size + 1 + 1 := by simp
  simp only [hsz] at kc
  clear hsz w1 w2 w3 hM hK hD0 ht bM
  go_enter Tryd.func17, Tryd.ntmps17
  go_wp2_with (first
    | ((with_reducible show wpList _ _ _ _ _ _); refine wpList_conv_str rfl (.tmp 8) rfl s rfl hs ?_; intro b cap w4 hb hr b4 hlt; rw [← sb_len s] at hr ⊢; have B4 := Lib.hid (W3.out.on b4); have R4 := Lib.hid (R3.out.below b4 R3.out.lt); have k4 := blk_rd (N3.out.below b4 N3.out.lt) HK.out.2 (n := 32) (cap := 32) (by rw [HK.out.1]; omega) (by omega) (by rw [HK.out.1]; omega); rw [List.take_of_length_le (by rw [HK.out.1]; omega)] at k4; have F4 := Lib.hid (hof_two_at (w := w4) (b := w4.heap.size) rfl k4 (A3.out.below b4) hr (HT.out.below (W3.out.on b4)) (by rw [sb_len]; have : SM.ahead.length = 10 := rfl; omega) HMM.out); clear hr b4 k4 hb hlt)
    | (go_at_call 18; (with_reducible refine F4.out.mono ?_); rintro e w5 ⟨rfl, b5⟩; have B5 := Lib.hid (B4.out.on b5); have R5 := Lib.hid (R4.out.below b5 R4.out.lt); clear b5)
    | (refine wpList_store_mid rfl 23 (.tmp 4) (.tmp 11) rfl (w.heap.size + 1) 0 (row8 M).toArray rfl rfl (R5.out.there _ (by rw [List.size_toArray, M32.out, hd0])) (by rw [List.size_toArray, M32.out]; exact infoKeyL) (row8_one _) ?_))
  have fin := R5.out.whole (row8 M) (by rw [M32.out, hd0])
  exact bodyPost_ret (v := .agg (row8 M).toArray) (results_mid rfl _ _ (w.heap.size + 1) (row8 M) _ rfl fin.range Tryd.underlying23 rfl (by rw [M32.out]; exact infoKeyL)) rfl ⟨rfl, below_setCells (w.heap.size + 1) (by omega) _ 0 _ B5.out⟩
end Go.Proofs.YtjemajenfkjelaaDoor
