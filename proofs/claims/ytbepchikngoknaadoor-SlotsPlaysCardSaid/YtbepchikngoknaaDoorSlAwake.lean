/- The document's sum of a table; what every right program does with one passphrase: contracts. Own work. -/
import Derived.Test.YtbepchikngoknaaDoorSlPX
import Derived.Test.YtbepchikngoknaaDoorSlOne
import Derived.Test.YtbepchikngoknaaDoorRdConst
import Derived.Test.YtbepchikngoknaaDoorWrapLaws
import Derived.Test.YtbepchikngoknaaDoorLoadWanted
import Derived.Lib.SlBytesConst
namespace Go.Proofs.YtbepchikngoknaaDoor
open Go.ChangeShapes Go.WideShapes Go.ChangeAt Go.RowKit
open SM WM SL
theorem rd_one (w : World) (n : Nat) (hn : n < 256) (b : Nat) (hb : b = w.heap.size) : Rd (w.alloc (.cells #[.int .u8 (n : Int)] 5 (1, 2))) (.slice (some ⟨b, 0, none⟩) 1 1) [n] :=
  rd_const w [n] (small_bytes (by simpa using hn)) (by simp) 1 rfl b hb (1, 2)
theorem rd_a (w : World) : Rd (w.alloc (.cells #[.int .u8 97] 5 (1, 2))) (.slice (some ⟨w.heap.size, 0, none⟩) 1 1) [97] := rd_one w 97 (by decide) _ rfl
theorem rd_b (w : World) : Rd (w.alloc (.cells #[.int .u8 98] 5 (1, 2))) (.slice (some ⟨w.heap.size, 0, none⟩) 1 1) [98] := rd_one w 98 (by decide) _ rfl
set_option maxRecDepth 100000 in
set_option maxHeartbeats 2000000 in
theorem sawake_any (w : World) (ht : TabX w) (hp : TabP w) : Calls Tryd.prog 15 #[] w fun e w' => e = .returned (.bool true) ∧ Below w.heap.size w w' := by
  have hza := zero_add (p := [97]) (salt := aSalt) (m := aKey) (t := 1) (by decide) (by decide) (by decide)
  rw [show ((1 : Nat) : Int) = 1 from rfl] at hza
  have hone := single_opens (p := [97]) (t := 1) (by decide) aSalt_bytes aKey_bytes (by decide) (by decide)
  have htwo := single_shut (p := [97]) (q := [98]) (t := 1) (by decide) aSalt_bytes aKey_bytes (by decide) (by decide) a_apart
  have hT := single_ok (made_ok [97] (t := 1) (by decide) aSalt_bytes aKey_bytes)
  have hus := single_used (s := made [97] aSalt 1 aKey) rfl
  obtain ⟨T, hTE⟩ : ∃ T, T = single (made [97] aSalt 1 aKey) := ⟨_, rfl⟩
  rw [← hTE] at hza hone htwo hT hus
  obtain ⟨N, hN⟩ : ∃ N, N = tbc T := ⟨_, rfl⟩
  obtain ⟨Z0, hZ0⟩ : ∃ D, D = tbc zero := ⟨_, rfl⟩
  obtain ⟨D0, hD0⟩ : ∃ D, D = row8 (List.replicate 32 0) := ⟨_, rfl⟩
  obtain ⟨SA, hSA⟩ : ∃ D, D = row8 aSalt := ⟨_, rfl⟩
  obtain ⟨KB, hKB⟩ : ∃ K, K = okey T [98] := ⟨_, rfl⟩
  have bKB : Bytes 32 KB := by rw [hKB]; exact okey_bytes hT [98]
  obtain ⟨IB, hIB⟩ : ∃ K, K = oidx T [98] := ⟨_, rfl⟩
  obtain ⟨KA, hKA⟩ : ∃ K, K = aKey := ⟨_, rfl⟩
  have bKA : Bytes 32 KA := by rw [hKA]; exact aKey_bytes
  have hz : ∀ w, (zeroValue 30).run Tryd.prog w = .ok (.agg Z0.toArray) w := by rw [hZ0]; exact zeroTb
  have hzk : ∀ w, (zeroValue 25).run Tryd.prog w = .ok (.agg D0.toArray) w := by rw [hD0]; exact zeroK2
  have hd0 : D0.length = 32 := by rw [hD0, row8_len, List.length_replicate]
  have hz656 : Z0.length = 656 := by rw [hZ0]; exact tbc_len zero_ok
  have N656 := Lib.hid (show N.length = 656 by rw [hN]; exact tbc_len hT)
  have NONE := Lib.hid (show N.toArray.all (·.oneCell') = true by rw [hN]; exact tbc_all _)
  have A32 := Lib.hid (show (row8 KA).length = 32 by rw [row8_len]; exact bKA.1)
  have B32 := Lib.hid (show (row8 KB).length = 32 by rw [row8_len]; exact bKB.1)
  have HBZ := Lib.hid (show Tryd.prog.built 30 [] = some Z0.toArray by rw [hZ0]; exact builtTb)
  have HBS := Lib.hid (show Tryd.prog.built 23 [(0, .int .u8 1)] = some SA.toArray by rw [hSA]; kernel_rfl)
  have HBK := Lib.hid (show Tryd.prog.built 25 [(0, .int .u8 7)] = some (row8 KA).toArray by rw [hKA]; kernel_rfl)
  have hkk := fun w => run_eql_keyW bKA bKA w
  simp only [decide_true] at hkk
  have HA := Lib.hid (show ∀ W, Below w.heap.size w W → ∀ v, Rd W v [97] → Calls Tryd.prog 22 #[.agg Z0.toArray, v, .agg SA.toArray, .int .i64 1, .agg (row8 KA).toArray] W fun e w' => e = .returned (.tuple #[.agg N.toArray, .int .i64 0]) ∧ Below W.heap.size W w' from fun W hW v hv => by
    have h := sadd_any zero zero_ok [97] aSalt aKey 1 v W aSalt_bytes aKey_bytes hv (ht.below hW) (hp.below hW)
    rw [hza.1, hza.2, ← hZ0, ← hN, ← hSA, ← hKA] at h
    exact h)
  have HO := Lib.hid (show ∀ W, Below w.heap.size w W → ∀ v, Rd W v [97] → Calls Tryd.prog 19 #[.agg N.toArray, v] W fun e w' => e = .returned (.tuple #[.agg (row8 KA).toArray, .int .i64 0, .int .i64 0]) ∧ Below W.heap.size W w' from fun W hW v hv => by
    have h := sopen_any T hT [97] v W hv (ht.below hW) (hp.below hW)
    rw [hone.1, hone.2.1, hone.2.2, ← hN, ← hKA] at h
    exact h)
  have HQ := Lib.hid (show ∀ W, Below w.heap.size w W → ∀ v, Rd W v [98] → Calls Tryd.prog 19 #[.agg N.toArray, v] W fun e w' => e = .returned (.tuple #[.agg (row8 KB).toArray, .int .i64 (IB : Int), .int .i64 30]) ∧ Below W.heap.size W w' from fun W hW v hv => by
    have h := sopen_any T hT [98] v W hv (ht.below hW) (hp.below hW)
    rw [htwo, ← hKB, ← hIB, ← hN] at h
    exact h)
  have HU := Lib.hid (show ∀ W, Calls Tryd.prog 13 #[.agg N.toArray] W fun e w' => e = .returned (.int .i64 1) ∧ Below W.heap.size W w' from fun W => by
    have h := sused_any T hT W
    rw [hus, ← hN] at h
    exact h)
  clear hza hone htwo hT hus hTE hN hZ0 hD0 hSA hKB bKB hIB hKA bKA ht hp
  have HA1 := Lib.hid (HA.out (w.alloc (.cells #[.int .u8 97] 5 (1, 2))) ((Below.refl w.heap.size w).alloc (Nat.le_refl _) (.cells #[.int .u8 97] 5 (1, 2))) _ (rd_a w))
  have kc := fun (w : World) (C : Array Value) (n c : Nat) => Lib.run_convert_bytes_const (P := Tryd.prog) w 31 5 C n c Tryd.underlying31 Tryd.underlying5
  go_enter Tryd.func15, Tryd.ntmps15
  go_wp2_with ((fail_if_success (with_reducible show bodyPost _ _ _ _ _ _)); first
    | (refine wpList_buildTo rfl 30 _ rfl (some 10) rfl Z0.toArray (Eq.trans (b := Tryd.prog.built 30 []) (by kernel_rfl) HBZ.out) ?_)
    | (refine wpList_buildTo rfl 23 _ rfl (some 13) rfl SA.toArray (Eq.trans (b := Tryd.prog.built 23 [(0, .int .u8 1)]) (by kernel_rfl) HBS.out) ?_)
    | (refine wpList_buildTo rfl 25 _ rfl (some 14) rfl (row8 KA).toArray (Eq.trans (b := Tryd.prog.built 25 [(0, .int .u8 7)]) (by kernel_rfl) HBK.out) ?_)
    | (go_at_call 22; (with_reducible refine HA1.out.mono ?_); rintro e w1 ⟨rfl, b1⟩; have W1 := Lib.hid (((Below.refl w.heap.size w).alloc (Nat.le_refl _) (.cells #[.int .u8 97] 5 (1, 2))).on b1); clear b1)
    | (refine wpList_store_blk rfl 30 (.tmp 1) (.tmp 16) rfl w1.heap.size 0 N rfl rfl 30 Z0 (Blk.new w1 30 Z0 _ rfl) (by rw [N656.out, hz656]; exact Nat.le_refl _) (by rw [N656.out]; exact infoTb) NONE.out ?_; intro w2 b2 g2; rw [splice_all _ _ (by rw [N656.out, hz656])] at b2; have T2 := Lib.hid b2; have W2 := Lib.hid (W1.out.on (alloc_turn (Below.refl _ _) g2)); have HO2 := Lib.hid (HO.out (w2.alloc (.cells #[.int .u8 97] 5 (1, 2))) (W2.out.alloc W2.out.size _) _ (rd_a w2)); clear b2 g2)
    | (refine wpList_load_mid rfl 30 (.tmp 1) rfl w1.heap.size 0 rfl N _ T2.out.range Tryd.underlying30 rfl (by rw [N656.out]; exact infoTb) ?_)
    | (go_at_call 19; (with_reducible refine HO2.out.mono ?_); rintro e w3 ⟨rfl, b3⟩; have hb3 := Lib.hid (((Below.refl w2.heap.size w2).alloc (Nat.le_refl _) (.cells #[.int .u8 97] 5 (1, 2))).on b3); have W3 := Lib.hid (W2.out.on hb3.out); have T3 := Lib.hid (T2.out.below hb3.out T2.out.lt); clear b3 hb3)
    | (refine wpList_store_blk rfl 25 (.tmp 3) (.tmp 23) rfl w3.heap.size 0 (row8 KA) rfl rfl 25 D0 (Blk.new w3 25 D0 _ rfl) (by rw [A32.out, hd0]; exact Nat.le_refl _) (by rw [A32.out]; exact infoK2) (row8_one _) ?_; intro w4 b4 g4; rw [splice_all _ _ (by rw [A32.out, hd0])] at b4; have hb4 := Lib.hid (alloc_turn (Below.refl _ _) g4); have K4 := Lib.hid b4; have W4 := Lib.hid (W3.out.on hb4.out); have HQ4 := Lib.hid (HQ.out (w4.alloc (.cells #[.int .u8 98] 5 (1, 2))) (W4.out.alloc W4.out.size _) _ (rd_b w4)); have T4 := Lib.hid (T3.out.below hb4.out T3.out.lt); clear b4 g4 hb4)
    | (refine wpList_load_mid rfl 30 (.tmp 1) rfl w1.heap.size 0 rfl N _ T4.out.range Tryd.underlying30 rfl (by rw [N656.out]; exact infoTb) ?_)
    | (go_at_call 19; (with_reducible refine HQ4.out.mono ?_); rintro e w5 ⟨rfl, b5⟩; have hb5 := Lib.hid (((Below.refl w4.heap.size w4).alloc (Nat.le_refl _) (.cells #[.int .u8 98] 5 (1, 2))).on b5); have W5 := Lib.hid (W4.out.on hb5.out); have T5 := Lib.hid (T4.out.below hb5.out T4.out.lt); have K5 := Lib.hid (K4.out.below hb5.out K4.out.lt); clear b5 hb5)
    | (refine wpList_store_blk rfl 25 (.tmp 6) (.tmp 31) rfl w5.heap.size 0 (row8 KB) rfl rfl 25 D0 (Blk.new w5 25 D0 _ rfl) (by rw [B32.out, hd0]; exact Nat.le_refl _) (by rw [B32.out]; exact infoK2) (row8_one _) ?_; intro w6 b6 g6; have hb6 := Lib.hid (alloc_turn (Below.refl _ _) g6); have W6 := Lib.hid (W5.out.on hb6.out); have T6 := Lib.hid (T5.out.below hb6.out T5.out.lt); have K6 := Lib.hid (K5.out.below hb6.out K5.out.lt); clear b6 g6 hb6)
    | (refine wpList_load_wanted rfl 25 (.tmp 3) rfl w3.heap.size 0 rfl (row8 KA) _ K6.out.range Tryd.underlying25 rfl (by rw [A32.out]; exact infoK2) ?_)
    | (refine wpList_wanted rfl (.agg (row8 KA).toArray) (ex_build (t := 25) rfl (Eq.trans (b := Tryd.prog.built 25 [(0, .int .u8 7)]) (by kernel_rfl) HBK.out)) ?_)
    | (refine wpList_wanted rfl (.bool true) (ex_binOp (x := .tmp 45) (y := .tmp 46) (b := .eql) (t := 25) rfl rfl rfl (run_eqGuard_agg _ _ _ _ _ _ _ eqTypeKW) (hkk _)) ?_)
    | (refine wpList_load_wanted rfl 30 (.tmp 1) rfl w1.heap.size 0 rfl N _ T6.out.range Tryd.underlying30 rfl (by rw [N656.out]; exact infoTb) ?_)
    | (go_at_call 13; (with_reducible refine (HU.out w6).mono ?_); rintro e w7 ⟨rfl, b7⟩; have W7 := Lib.hid (W6.out.on b7); clear b7))
  go_ret
  exact ⟨rfl, W7.out⟩
end Go.Proofs.YtbepchikngoknaaDoor
