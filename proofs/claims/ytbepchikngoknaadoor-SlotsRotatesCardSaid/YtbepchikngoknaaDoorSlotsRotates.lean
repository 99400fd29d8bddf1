/- SlotsRotates: behind a rotation the new passphrase opens what the old one did, and the old one nothing, but where both make the same key or by chance the same check; the last one is not removed; what is refused is refused for its length or because it is there; and the law's closed case holds. No condition but that the listed tables hold their constants when the call begins. -/
import Derived.Test.YtbepchikngoknaaDoorRows
import Derived.Test.YtbepchikngoknaaDoorSlAwake
import Derived.Test.YtbepchikngoknaaDoorSlSOpens
import Derived.Test.YtbepchikngoknaaDoorWrapLaws
import Derived.Test.YtbepchikngoknaaDoorDoorWrap
import Derived.Test.YtbepchikngoknaaDoorTie
import Derived.Test.YtbepchikngoknaaDoorCards
import Derived.SevenTiedAt
import Derived.Test.YtbepchikngoknaaDoorMem
import Derived.WalkKit
import Derived.ProofKit
import Derived.OpenShut
import Derived.SizedLaws
import Derived.Carry
import Derived.Deep.DeepHandedRow
import Derived.Deep.DeepWitnessRowRef
namespace Go.Proofs.YtbepchikngoknaaDoor.slotsRotates
open Go.ChangeShapes Go.WideShapes Go.ChangeAt Go.RowKit
open SM WM SL
theorem builtS1 (x : Nat) : Tryd.prog.built 23 [(0, .int .u8 1), (1, .int .u8 (x : Int))] = some (row8 (1 :: x :: List.replicate 14 0)).toArray := by kernel_rfl
theorem builtS2 (x : Nat) : Tryd.prog.built 23 [(0, .int .u8 2), (1, .int .u8 (x : Int))] = some (row8 (2 :: x :: List.replicate 14 0)).toArray := by kernel_rfl
theorem builtKM (x : Nat) : Tryd.prog.built 25 [(0, .int .u8 (x : Int)), (1, .int .u8 9)] = some (row8 (x :: 9 :: List.replicate 30 0)).toArray := by kernel_rfl
theorem zero16 (w : World) : (zeroValue 23).run Tryd.prog w = .ok (.agg (row8 (List.replicate 16 0)).toArray) w := by kernel_rfl
theorem salt_bytes (c x : Nat) (hc : c < 256) (hx : x < 256) : Bytes 16 (c :: x :: List.replicate 14 0) := ⟨rfl, fun k => by
  match k with
  | 0 => exact hc
  | 1 => exact hx
  | k + 2 => exact (bytes_zero 14).2 k⟩
theorem key9_bytes (x : Nat) (hx : x < 256) : Bytes 32 (x :: 9 :: List.replicate 30 0) := ⟨rfl, fun k => by
  match k with
  | 0 => exact hx
  | 1 => exact (by decide : 9 < 256)
  | k + 2 => exact (bytes_zero 30).2 k⟩
theorem zero_long {p salt m : List Nat} {t : Int} (hp : 512 < p.length) : aerr zero p t = 5 ∧ add zero p salt t m = zero := by
  have e : comes zero p t = 5 := by unfold comes; rw [if_pos hp]
  have e2 : aerr zero p t = 5 := by unfold aerr; rw [e, if_neg (by decide)]
  exact ⟨e2, by unfold add; rw [e2, if_neg (by decide)]⟩
theorem single_set (s u : Slot) : (single s).set 0 u = single u := by unfold single; rw [List.set_set]
theorem own : ownKnob Tryd.prog.godebug = none := by kernel_rfl
set_option linter.unusedVariables false in
set_option maxRecDepth 100000 in
set_option maxHeartbeats 8000000 in
theorem walk (w : World) (ht : TabX w ∧ Tab w ∧ TabA w ∧ TabP w) (v0 : Value) (l0 : List Nat) (h0 : Rd w v0 l0) (v1 : Value) (l1 : List Nat) (h1 : Rd w v1 l1) (a2 : Int) (w2 : (Lit.int .u8 a2).wf = true) :
    Calls Tryd.prog 8 #[v0, v1, .int .u8 a2] w fun e w' => e = .returned (.bool true) ∧ Below w.heap.size w w' := by
  obtain ⟨TX, TK, TA, TP⟩ := ht
  have hn256 : 0 ≤ a2 ∧ a2 ≤ 255 := by simpa [Lit.wf, IntKind.min, IntKind.max, IntKind.signed, IntKind.bits] using w2
  obtain ⟨n, rfl⟩ : ∃ n : Nat, a2 = (n : Int) := ⟨a2.toNat, by omega⟩
  have hn : n < 256 := by omega
  clear w2 hn256
  obtain ⟨va, vc, rfl, _⟩ := h0.shape
  obtain ⟨ua, uc, rfl, _⟩ := h1.shape
  obtain ⟨kn, hkn⟩ : ∃ k, k = 1 + n % 8 := ⟨_, rfl⟩
  have hk1 : 1 ≤ kn := by omega
  have hk2 : kn ≤ 4096 := by omega
  have b1 := salt_bytes 1 n (by decide) hn
  have b2 := salt_bytes 2 n (by decide) hn
  have bM := key9_bytes n hn
  obtain ⟨s1, hs1⟩ : ∃ s, s = 1 :: n :: List.replicate 14 0 := ⟨_, rfl⟩
  obtain ⟨s2, hs2⟩ : ∃ s, s = 2 :: n :: List.replicate 14 0 := ⟨_, rfl⟩
  obtain ⟨M, hM⟩ : ∃ s, s = n :: 9 :: List.replicate 30 0 := ⟨_, rfl⟩
  rw [← hs1] at b1
  rw [← hs2] at b2
  rw [← hM] at bM
  obtain ⟨S1, hS1⟩ : ∃ S, S = row8 s1 := ⟨_, rfl⟩
  obtain ⟨S2, hS2⟩ : ∃ S, S = row8 s2 := ⟨_, rfl⟩
  have HB1 := Lib.hid (show Tryd.prog.built 23 [(0, .int .u8 1), (1, .int .u8 (n : Int))] = some S1.toArray by rw [hS1, hs1]; exact builtS1 n)
  have HB2 := Lib.hid (show Tryd.prog.built 23 [(0, .int .u8 2), (1, .int .u8 (n : Int))] = some S2.toArray by rw [hS2, hs2]; exact builtS2 n)
  have HBM := Lib.hid (show Tryd.prog.built 25 [(0, .int .u8 (n : Int)), (1, .int .u8 9)] = some (row8 M).toArray by rw [hM]; exact builtKM n)
  obtain ⟨D6, hD6⟩ : ∃ D, D = row8 (List.replicate 16 0) := ⟨_, rfl⟩
  obtain ⟨D0, hD0⟩ : ∃ D, D = row8 (List.replicate 32 0) := ⟨_, rfl⟩
  obtain ⟨Z0, hZ0⟩ : ∃ D, D = tbc zero := ⟨_, rfl⟩
  have hz6 : ∀ w, (zeroValue 23).run Tryd.prog w = .ok (.agg D6.toArray) w := by rw [hD6]; exact zero16
  have hzk : ∀ w, (zeroValue 25).run Tryd.prog w = .ok (.agg D0.toArray) w := by rw [hD0]; exact zeroK2
  have hz : ∀ w, (zeroValue 30).run Tryd.prog w = .ok (.agg Z0.toArray) w := by rw [hZ0]; exact zeroTb
  have hd6 : D6.length = 16 := by rw [hD6, row8_len, List.length_replicate]
  have hd0 : D0.length = 32 := by rw [hD0, row8_len, List.length_replicate]
  have hz656 : Z0.length = 656 := by rw [hZ0]; exact tbc_len zero_ok
  have hbz : Tryd.prog.built 30 [] = some Z0.toArray := by rw [hZ0]; exact builtTb
  have ZONE := Lib.hid (show Z0.toArray.all (·.oneCell') = true by rw [hZ0]; exact tbc_all _)
  have S16 := Lib.hid (show S1.length = 16 by rw [hS1, row8_len]; exact b1.1)
  have S162 := Lib.hid (show S2.length = 16 by rw [hS2, row8_len]; exact b2.1)
  have S1ONE := Lib.hid (show S1.toArray.all (·.oneCell') = true by rw [hS1]; exact row8_one _)
  have S2ONE := Lib.hid (show S2.toArray.all (·.oneCell') = true by rw [hS2]; exact row8_one _)
  have M32 := Lib.hid (show (row8 M).length = 32 by rw [row8_len]; exact bM.1)
  have hkk := fun w => run_eql_keyW bM bM w
  simp only [decide_true] at hkk
  have x1 := (Below.refl w.heap.size w).alloc (Nat.le_refl _) (.cells D6.toArray 23)
  have WZ := Lib.hid (x1.alloc x1.size (.cells D6.toArray 23))
  have OZ := Lib.hid (Blk.new (w.alloc (.cells D6.toArray 23)) 23 D6 (w.heap.size + 1) (by simp))
  have aw1 : IntKind.i64.wrap (n : Int) = (n : Int) := by rw [IntKind.wrap_i64]; omega
  have aw2 : Int.tmod (n : Int) 8 = ((n % 8 : Nat) : Int) := by rw [Int.tmod_eq_emod_of_nonneg (by omega)]; omega
  have hkI : 1 + (n : Int) % 8 = (kn : Int) := by omega
  have aw3 : IntKind.i64.wrap (1 + ((n % 8 : Nat) : Int)) = (kn : Int) := by rw [IntKind.wrap_i64]; omega
  have HAW := Lib.hid (fun W (hW : Below w.heap.size w W) => sawake_any W (TX.below hW) (TP.below hW))
  obtain ⟨ol, hol⟩ : ∃ n, n = l0.length := ⟨_, rfl⟩
  obtain ⟨fl, hfl⟩ : ∃ n, n = l1.length := ⟨_, rfl⟩
  have HADD0 := fun W (hW : Below w.heap.size w W) => sadd_any zero zero_ok l0 s1 M (kn : Int) _ W b1 bM (h0.below hW) (TX.below hW) (TP.below hW)
  rw [← hZ0, ← hS1] at HADD0
  clear x1 hD6 hD0
  by_cases hlong : 512 < ol
  · obtain ⟨N1, hN1⟩ : ∃ N, N = Z0 := ⟨_, rfl⟩
    have N1656 := Lib.hid (show N1.length = 656 by rw [hN1]; exact hz656)
    have N1ONE := Lib.hid (show N1.toArray.all (·.oneCell') = true by rw [hN1]; exact ZONE.out)
    rw [(zero_long (p := l0) (salt := s1) (m := M) (t := (kn : Int)) (by rw [← hol]; exact hlong)).1, (zero_long (p := l0) (salt := s1) (m := M) (t := (kn : Int)) (by rw [← hol]; exact hlong)).2, ← hZ0] at HADD0
    have HADD := Lib.hid (show ∀ W, Below w.heap.size w W → Calls Tryd.prog 22 #[.agg Z0.toArray, .slice va ol vc, .agg S1.toArray, .int .i64 (kn : Int), .agg (row8 M).toArray] W fun e w' => e = .returned (.tuple #[.agg N1.toArray, .int .i64 5]) ∧ Below W.heap.size W w' by rw [hN1, hol]; exact HADD0)
    rw [← hol]
    have hlz : (512 : Int) < (ol : Int) := by omega
    clear HADD0 hN1 h0 h1 hol hfl hs1 hs2 hM hS1 hS2 hZ0 b1 b2 bM hkn hk1 hk2 hn TX TK TA TP
    go_enter Tryd.func8, Tryd.ntmps8
    go_upto_region 4 with ((fail_if_success (with_reducible show bodyPost _ _ _ _ _ _)); first
      | (refine wpList_buildTo rfl 23 _ rfl (some 28) rfl S1.toArray (Eq.trans (b := Tryd.prog.built 23 [(0, .int .u8 1), (1, .int .u8 (n : Int))]) (by kernel_rfl) HB1.out) ?_)
      | (refine wpList_buildTo rfl 23 _ rfl (some 30) rfl S2.toArray (Eq.trans (b := Tryd.prog.built 23 [(0, .int .u8 2), (1, .int .u8 (n : Int))]) (by kernel_rfl) HB2.out) ?_)
      | (refine wpList_store_blk rfl 23 (.tmp 7) (.tmp 28) rfl w.heap.size 0 S1 rfl rfl 23 D6 ((Blk.new w 23 D6 _ rfl).alloc _) (by rw [S16.out, hd6]; exact Nat.le_refl _) (by rw [S16.out]; exact info162) S1ONE.out ?_; intro w1 b g; rw [splice_all _ _ (by rw [S16.out, hd6])] at b; have A1 := Lib.hid b; have O1 := Lib.hid (OZ.out.grown g (fun e => by have := Option.some.inj e; omega)); have W1 := Lib.hid (WZ.out.grown g WZ.out.size (fun g hg => by have := Option.some.inj hg; omega)); clear b g)
      | (refine wpList_store_blk rfl 23 (.tmp 8) (.tmp 30) rfl (w.heap.size + 1) 0 S2 rfl rfl 23 D6 O1.out (by rw [S162.out, hd6]; exact Nat.le_refl _) (by rw [S162.out]; exact info162) S2ONE.out ?_; intro w2 b g; rw [splice_all _ _ (by rw [S162.out, hd6])] at b; have O2 := Lib.hid b; have A2 := Lib.hid (A1.out.grown g (fun e => by have := Option.some.inj e; omega)); have W2 := Lib.hid (W1.out.grown g W1.out.size (fun g hg => by have := Option.some.inj hg; omega)); clear b g)
      | (refine wpList_buildTo rfl 25 _ rfl (some 32) rfl (row8 M).toArray (Eq.trans (b := Tryd.prog.built 25 [(0, .int .u8 (n : Int)), (1, .int .u8 9)]) (by kernel_rfl) HBM.out) ?_)
      | (refine wpList_store_blk rfl 25 (.tmp 9) (.tmp 32) rfl w2.heap.size 0 (row8 M) rfl rfl 25 D0 (Blk.new w2 25 D0 _ rfl) (by rw [M32.out, hd0]; exact Nat.le_refl _) (by rw [M32.out]; exact infoK2) (row8_one _) ?_; intro w3 b g; rw [splice_all _ _ (by rw [M32.out, hd0])] at b; have hb := alloc_turn (Below.refl _ _) g; have K3 := Lib.hid b; have A3 := Lib.hid (A2.out.below hb A2.out.lt); have O3 := Lib.hid (O2.out.below hb O2.out.lt); have W3 := Lib.hid (W2.out.on hb); clear b g hb))
    go_upto_region 5 with ((fail_if_success (with_reducible show bodyPost _ _ _ _ _ _)); first
      | (refine wpList_buildTo rfl 30 _ rfl (some 38) rfl Z0.toArray (Eq.trans (b := Tryd.prog.built 30 []) (by kernel_rfl) hbz) ?_)
      | (refine wpList_load_mid rfl 23 (.tmp 7) rfl w.heap.size 0 rfl S1 _ A3.out.range Tryd.underlying23 rfl (by rw [S16.out]; exact info162) ?_)
      | (refine wpList_load_mid rfl 25 (.tmp 9) rfl w2.heap.size 0 rfl (row8 M) _ K3.out.range Tryd.underlying25 rfl (by rw [M32.out]; exact infoK2) ?_)
      | (go_at_call 22; (with_reducible refine (HADD.out w3 W3.out).mono ?_); rintro e w4 ⟨rfl, b⟩; have A4 := Lib.hid (A3.out.below b A3.out.lt); have O4 := Lib.hid (O3.out.below b O3.out.lt); have K4 := Lib.hid (K3.out.below b K3.out.lt); have W4 := Lib.hid (W3.out.on b); clear b)
      | (refine wpList_store_blk rfl 30 (.tmp 11) (.tmp 44) rfl w4.heap.size 0 N1 rfl rfl 30 Z0 (Blk.new w4 30 Z0 _ rfl) (by rw [N1656.out, hz656]; exact Nat.le_refl _) (by rw [N1656.out]; exact infoTb) N1ONE.out ?_; intro w5 b g; rw [splice_all _ _ (by rw [N1656.out, hz656])] at b; have hb := alloc_turn (Below.refl _ _) g; have T5 := Lib.hid b; have O5 := Lib.hid (O4.out.below hb O4.out.lt); have K5 := Lib.hid (K4.out.below hb K4.out.lt); have W5 := Lib.hid (W4.out.on hb); clear b g hb))
    go_wp2_with ((fail_if_success (with_reducible show bodyPost _ _ _ _ _ _)); first
      | (go_at_call 15; (with_reducible refine (HAW.out w5 W5.out).mono ?_); rintro e wx ⟨rfl, b⟩; have WX := Lib.hid (W5.out.on b); clear b))
    go_ret
    exact ⟨rfl, WX.out⟩
  · have hp0 : l0.length ≤ 512 := by omega
    have hza := zero_add (p := l0) (salt := s1) (m := M) (t := kn) hp0 hk1 hk2
    have hs1ok := single_ok (made_ok l0 (t := kn) (by omega) b1 bM)
    have hop := single_opens (p := l0) (t := kn) hp0 b1 bM hk1 hk2
    obtain ⟨T1, hT1⟩ : ∃ T, T = single (made l0 s1 kn M) := ⟨_, rfl⟩
    rw [← hT1] at hza hs1ok hop
    rw [hza.1, hza.2] at HADD0
    have HROT0 := fun W (hW : Below w.heap.size w W) => srotate_any T1 hs1ok l0 l1 s2 (kn : Int) _ _ W b2 (h0.below hW) (h1.below hW) (TX.below hW) (TP.below hW)
    have hterr : terr T1 l0 l1 (kn : Int) = comes T1 l1 (kn : Int) := by unfold terr; rw [hop.1, if_pos rfl]
    obtain ⟨N1, hN1⟩ : ∃ N, N = tbc T1 := ⟨_, rfl⟩
    have N1656 := Lib.hid (show N1.length = 656 by rw [hN1]; exact tbc_len hs1ok)
    have N1ONE := Lib.hid (show N1.toArray.all (·.oneCell') = true by rw [hN1]; exact tbc_all _)
    rw [← hN1] at HADD0 HROT0
    rw [← hS2] at HROT0
    rw [hterr] at HROT0
    have HADD := Lib.hid (show ∀ W, Below w.heap.size w W → Calls Tryd.prog 22 #[.agg Z0.toArray, .slice va ol vc, .agg S1.toArray, .int .i64 (kn : Int), .agg (row8 M).toArray] W fun e w' => e = .returned (.tuple #[.agg N1.toArray, .int .i64 0]) ∧ Below W.heap.size W w' by rw [hol]; exact HADD0)
    clear HADD0
    by_cases hc : comes T1 l1 (kn : Int) = 0
    · obtain ⟨hp1, _, _⟩ := comes_none hc
      have hrot : rotate T1 l0 l1 s2 (kn : Int) = single (made l1 s2 kn M) := by
        unfold rotate
        rw [hterr, hc, if_pos rfl, hop.2.1, hop.2.2, hT1, single_set]; rfl
      have hs2ok := single_ok (made_ok l1 (t := kn) (by omega) b2 bM)
      have hop2 := single_opens (p := l1) (t := kn) hp1 b2 bM hk1 hk2
      have hus := single_used (s := made l1 s2 kn M) rfl
      obtain ⟨T2, hT2⟩ : ∃ T, T = single (made l1 s2 kn M) := ⟨_, rfl⟩
      rw [← hT2] at hrot hs2ok hop2 hus
      rw [hrot, hc] at HROT0
      have HOP10 := fun W (hW : Below w.heap.size w W) => sopen_any T2 hs2ok l1 _ W (h1.below hW) (TX.below hW) (TP.below hW)
      rw [hop2.1, hop2.2.1, hop2.2.2] at HOP10
      have HOP20 := fun W (hW : Below w.heap.size w W) => sopen_any T2 hs2ok l0 _ W (h0.below hW) (TX.below hW) (TP.below hW)
      have HREM0 := fun W (hW : Below w.heap.size w W) => sremove_any T2 hs2ok l1 _ W (h1.below hW) (TX.below hW) (TP.below hW)
      have hre : rerr T2 l1 = 31 := by unfold rerr; rw [hop2.1, if_pos rfl, hus, if_pos rfl]
      have hrm : remove T2 l1 = zero := by unfold remove; rw [hre, if_neg (by decide)]
      rw [hre, hrm, ← hZ0] at HREM0
      have HSO0 := fun W (hW : Below w.heap.size w W) => slotOpens_any T2 hs2ok l0 _ W (h0.below hW) (TA.below hW) (TK.below hW)
      have hec : oerr T2 l0 = 0 ∨ oerr T2 l0 = 30 := by
        unfold oerr
        rw [if_neg (by omega)]
        split
        · exact .inl rfl
        · exact .inr rfl
      obtain ⟨ke1, kr1⟩ := kerr_none (p := l0) hp0 b2 hk1 hk2
      obtain ⟨ke2, kr2⟩ := kerr_none (p := l1) hp1 b2 hk1 hk2
      have HD10 := fun W (hW : Below w.heap.size w W) (hs : Blk W (w.heap.size + 1) 23 S2) => kderive_any l0 s2 (kn : Int) 32 _ _ W (h0.below hW) (rd_range (by rw [← hS2]; exact hs.range) b2 (by decide)) (TP.below hW)
      have HD20 := fun W (hW : Below w.heap.size w W) (hs : Blk W (w.heap.size + 1) 23 S2) => kderive_any l1 s2 (kn : Int) 32 _ _ W (h1.below hW) (rd_range (by rw [← hS2]; exact hs.range) b2 (by decide)) (TP.below hW)
      rw [ke1, kr1] at HD10
      rw [ke2, kr2] at HD20
      obtain ⟨N2, hN2⟩ : ∃ N, N = tbc T2 := ⟨_, rfl⟩
      have N2656 := Lib.hid (show N2.length = 656 by rw [hN2]; exact tbc_len hs2ok)
      have N2ONE := Lib.hid (show N2.toArray.all (·.oneCell') = true by rw [hN2]; exact tbc_all _)
      rw [← hN2] at HROT0 HOP10 HOP20 HREM0 HSO0
      obtain ⟨KB, hKB⟩ : ∃ K, K = okey T2 l0 := ⟨_, rfl⟩
      have KB32 := Lib.hid (show (row8 KB).length = 32 by rw [row8_len, hKB]; exact (okey_bytes hs2ok l0).1)
      obtain ⟨IB, hIB⟩ : ∃ K, K = oidx T2 l0 := ⟨_, rfl⟩
      rw [← hKB, ← hIB] at HOP20
      obtain ⟨KA1, hKA1⟩ : ∃ K, K = key l0 s2 kn := ⟨_, rfl⟩
      obtain ⟨KA2, hKA2⟩ : ∃ K, K = key l1 s2 kn := ⟨_, rfl⟩
      have b32a : KA1.length = 32 := by rw [hKA1]; exact (key_bytes _ _ _).1
      have b32b : KA2.length = 32 := by rw [hKA2]; exact (key_bytes _ _ _).1
      rw [← hKA1] at HD10
      rw [← hKA2] at HD20
      obtain ⟨SA, hSA⟩ : ∃ S, S = bstr KA1 := ⟨_, rfl⟩
      obtain ⟨SB, hSB⟩ : ∃ S, S = bstr KA2 := ⟨_, rfl⟩
      have HSA := Lib.hid (fun (W : World) (v : Value) (hv : Rd W v KA1) => hv.str)
      have HSB := Lib.hid (fun (W : World) (v : Value) (hv : Rd W v KA2) => hv.str)
      rw [← hSA] at HSA
      rw [← hSB] at HSB
      have hss0 := fun w => run_eql_str SA SB w
      rw [← hol, ← hfl] at HROT0
      rw [← hfl] at HOP10 HREM0 HD20
      rw [← hol] at HOP20 HD10 HSO0
      rw [← hol, ← hfl]
      obtain ⟨E3, hE3⟩ : ∃ E, E = oerr T2 l0 := ⟨_, rfl⟩
      rw [← hE3] at HOP20 HSO0 hec
      have HROT := Lib.hid HROT0
      have HOP1 := Lib.hid HOP10
      have HREM := Lib.hid HREM0
      have HD1 := Lib.hid HD10
      have HD2 := Lib.hid HD20
      have hlz : ¬ (512 : Int) < (ol : Int) := by omega
      have hlf : ¬ (512 : Int) < (fl : Int) := by omega
      clear HROT0 HOP10 HREM0 HD10 HD20 hrot hs2ok hop2 hus hT2 hre hrm ke1 kr1 ke2 kr2 hN2 hKB hIB hKA1 hKA2 b32a b32b hSA hSB hE3 hc hterr hN1 hT1 hza hs1ok hop h0 h1 hol hfl hs1 hs2 hM hS1 hS2 hZ0 b1 b2 bM hkn hk1 hk2 hn TX TK TA TP hp0 hp1
      have HEC := Lib.hid hec
      have HSS := Lib.hid hss0
      have HSO1 := Lib.hid HSO0
      have HOP2 := Lib.hid HOP20
      clear hec hss0 HSO0 HOP20
      go_enter Tryd.func8, Tryd.ntmps8
      go_upto_region 4 with ((fail_if_success (with_reducible show bodyPost _ _ _ _ _ _)); first
        | (refine wpList_buildTo rfl 23 _ rfl (some 28) rfl S1.toArray (Eq.trans (b := Tryd.prog.built 23 [(0, .int .u8 1), (1, .int .u8 (n : Int))]) (by kernel_rfl) HB1.out) ?_)
        | (refine wpList_buildTo rfl 23 _ rfl (some 30) rfl S2.toArray (Eq.trans (b := Tryd.prog.built 23 [(0, .int .u8 2), (1, .int .u8 (n : Int))]) (by kernel_rfl) HB2.out) ?_)
        | (refine wpList_store_blk rfl 23 (.tmp 7) (.tmp 28) rfl w.heap.size 0 S1 rfl rfl 23 D6 ((Blk.new w 23 D6 _ rfl).alloc _) (by rw [S16.out, hd6]; exact Nat.le_refl _) (by rw [S16.out]; exact info162) S1ONE.out ?_; intro w1 b g; rw [splice_all _ _ (by rw [S16.out, hd6])] at b; have A1 := Lib.hid b; have O1 := Lib.hid (OZ.out.grown g (fun e => by have := Option.some.inj e; omega)); have W1 := Lib.hid (WZ.out.grown g WZ.out.size (fun g hg => by have := Option.some.inj hg; omega)); clear b g)
        | (refine wpList_store_blk rfl 23 (.tmp 8) (.tmp 30) rfl (w.heap.size + 1) 0 S2 rfl rfl 23 D6 O1.out (by rw [S162.out, hd6]; exact Nat.le_refl _) (by rw [S162.out]; exact info162) S2ONE.out ?_; intro w2 b g; rw [splice_all _ _ (by rw [S162.out, hd6])] at b; have O2 := Lib.hid b; have A2 := Lib.hid (A1.out.grown g (fun e => by have := Option.some.inj e; omega)); have W2 := Lib.hid (W1.out.grown g W1.out.size (fun g hg => by have := Option.some.inj hg; omega)); clear b g)
        | (refine wpList_buildTo rfl 25 _ rfl (some 32) rfl (row8 M).toArray (Eq.trans (b := Tryd.prog.built 25 [(0, .int .u8 (n : Int)), (1, .int .u8 9)]) (by kernel_rfl) HBM.out) ?_)
        | (refine wpList_store_blk rfl 25 (.tmp 9) (.tmp 32) rfl w2.heap.size 0 (row8 M) rfl rfl 25 D0 (Blk.new w2 25 D0 _ rfl) (by rw [M32.out, hd0]; exact Nat.le_refl _) (by rw [M32.out]; exact infoK2) (row8_one _) ?_; intro w3 b g; rw [splice_all _ _ (by rw [M32.out, hd0])] at b; have hb := alloc_turn (Below.refl _ _) g; have K3 := Lib.hid b; have A3 := Lib.hid (A2.out.below hb A2.out.lt); have O3 := Lib.hid (O2.out.below hb O2.out.lt); have W3 := Lib.hid (W2.out.on hb); clear b g hb))
      go_upto_region 5 with ((fail_if_success (with_reducible show bodyPost _ _ _ _ _ _)); first
        | (refine wpList_buildTo rfl 30 _ rfl (some 38) rfl Z0.toArray (Eq.trans (b := Tryd.prog.built 30 []) (by kernel_rfl) hbz) ?_)
        | (refine wpList_load_mid rfl 23 (.tmp 7) rfl w.heap.size 0 rfl S1 _ A3.out.range Tryd.underlying23 rfl (by rw [S16.out]; exact info162) ?_)
        | (refine wpList_load_mid rfl 25 (.tmp 9) rfl w2.heap.size 0 rfl (row8 M) _ K3.out.range Tryd.underlying25 rfl (by rw [M32.out]; exact infoK2) ?_)
        | (go_at_call 22; (with_reducible refine (HADD.out w3 W3.out).mono ?_); rintro e w4 ⟨rfl, b⟩; have A4 := Lib.hid (A3.out.below b A3.out.lt); have O4 := Lib.hid (O3.out.below b O3.out.lt); have K4 := Lib.hid (K3.out.below b K3.out.lt); have W4 := Lib.hid (W3.out.on b); clear b)
        | (refine wpList_store_blk rfl 30 (.tmp 11) (.tmp 44) rfl w4.heap.size 0 N1 rfl rfl 30 Z0 (Blk.new w4 30 Z0 _ rfl) (by rw [N1656.out, hz656]; exact Nat.le_refl _) (by rw [N1656.out]; exact infoTb) N1ONE.out ?_; intro w5 b g; rw [splice_all _ _ (by rw [N1656.out, hz656])] at b; have hb := alloc_turn (Below.refl _ _) g; have T5 := Lib.hid b; have O5 := Lib.hid (O4.out.below hb O4.out.lt); have K5 := Lib.hid (K4.out.below hb K4.out.lt); have W5 := Lib.hid (W4.out.on hb); clear b g hb))
      go_upto_region 8 with ((fail_if_success (with_reducible show bodyPost _ _ _ _ _ _)); first
        | (refine wpList_load_mid rfl 30 (.tmp 11) rfl w4.heap.size 0 rfl N1 _ T5.out.range Tryd.underlying30 rfl (by rw [N1656.out]; exact infoTb) ?_)
        | (refine wpList_load_mid rfl 23 (.tmp 8) rfl (w.heap.size + 1) 0 rfl S2 _ O5.out.range Tryd.underlying23 rfl (by rw [S162.out]; exact info162) ?_)
        | (go_at_call 23; (with_reducible refine (HROT.out w5 W5.out).mono ?_); rintro e w6 ⟨rfl, b⟩; have O6 := Lib.hid (O5.out.below b O5.out.lt); have K6 := Lib.hid (K5.out.below b K5.out.lt); have W6 := Lib.hid (W5.out.on b); clear b)
        | (refine wpList_store_blk rfl 30 (.tmp 13) (.tmp 65) rfl w6.heap.size 0 N2 rfl rfl 30 Z0 (Blk.new w6 30 Z0 _ rfl) (by rw [N2656.out, hz656]; exact Nat.le_refl _) (by rw [N2656.out]; exact infoTb) N2ONE.out ?_; intro w7 b g; rw [splice_all _ _ (by rw [N2656.out, hz656])] at b; have hb := alloc_turn (Below.refl _ _) g; have U7 := Lib.hid b; have O7 := Lib.hid (O6.out.below hb O6.out.lt); have K7 := Lib.hid (K6.out.below hb K6.out.lt); have W7 := Lib.hid (W6.out.on hb); clear b g hb))
      go_upto_region 11 with ((fail_if_success (with_reducible show bodyPost _ _ _ _ _ _)); first
        | (refine wpList_load_mid rfl 30 (.tmp 13) rfl w6.heap.size 0 rfl N2 _ U7.out.range Tryd.underlying30 rfl (by rw [N2656.out]; exact infoTb) ?_)
        | (go_at_call 19; (with_reducible refine (HOP1.out w7 W7.out).mono ?_); rintro e w8 ⟨rfl, b⟩; have U8 := Lib.hid (U7.out.below b U7.out.lt); have O8 := Lib.hid (O7.out.below b O7.out.lt); have K8 := Lib.hid (K7.out.below b K7.out.lt); have W8 := Lib.hid (W7.out.on b); clear b)
        | (refine wpList_store_blk rfl 25 (.tmp 15) (.tmp 87) rfl w8.heap.size 0 (row8 M) rfl rfl 25 D0 (Blk.new w8 25 D0 _ rfl) (by rw [M32.out, hd0]; exact Nat.le_refl _) (by rw [M32.out]; exact infoK2) (row8_one _) ?_; intro w9 b g; rw [splice_all _ _ (by rw [M32.out, hd0])] at b; have hb := alloc_turn (Below.refl _ _) g; have M9 := Lib.hid b; have U9 := Lib.hid (U8.out.below hb U8.out.lt); have O9 := Lib.hid (O8.out.below hb O8.out.lt); have K9 := Lib.hid (K8.out.below hb K8.out.lt); have W9 := Lib.hid (W8.out.on hb); clear b g hb))
      go_upto_region 12 with ((fail_if_success (with_reducible show bodyPost _ _ _ _ _ _)); first
        | (refine wpList_load_mid rfl 30 (.tmp 13) rfl w6.heap.size 0 rfl N2 _ U9.out.range Tryd.underlying30 rfl (by rw [N2656.out]; exact infoTb) ?_)
        | (go_at_call 19; (with_reducible refine (HOP2.out w9 W9.out).mono ?_); rintro e w10 ⟨rfl, b⟩; have U10 := Lib.hid (U9.out.below b U9.out.lt); have O10 := Lib.hid (O9.out.below b O9.out.lt); have K10 := Lib.hid (K9.out.below b K9.out.lt); have M10 := Lib.hid (M9.out.below b M9.out.lt); have W10 := Lib.hid (W9.out.on b); clear b)
        | (refine wpList_store_blk rfl 25 (.tmp 18) (.tmp 94) rfl w10.heap.size 0 (row8 KB) rfl rfl 25 D0 (Blk.new w10 25 D0 _ rfl) (by rw [KB32.out, hd0]; exact Nat.le_refl _) (by rw [KB32.out]; exact infoK2) (row8_one _) ?_; intro w11 b g; rw [splice_all _ _ (by rw [KB32.out, hd0])] at b; have hb := alloc_turn (Below.refl _ _) g; have U11 := Lib.hid (U10.out.below hb U10.out.lt); have O11 := Lib.hid (O10.out.below hb O10.out.lt); have K11 := Lib.hid (K10.out.below hb K10.out.lt); have M11 := Lib.hid (M10.out.below hb M10.out.lt); have W11 := Lib.hid (W10.out.on hb); clear b g hb))
      go_upto_region 14 with ((fail_if_success (with_reducible show bodyPost _ _ _ _ _ _)); first
        | (go_at_call 24; (with_reducible refine (HD1.out w11 W11.out O11.out).mono ?_); rintro e w12 ⟨y, rfl, ry, b⟩; obtain ⟨ya11, yc11, rfl, _⟩ := ry.shape; have Y12 := Lib.hid ry; have U12 := Lib.hid (U11.out.below b U11.out.lt); have O12 := Lib.hid (O11.out.below b O11.out.lt); have K12 := Lib.hid (K11.out.below b K11.out.lt); have M12 := Lib.hid (M11.out.below b M11.out.lt); have W12 := Lib.hid (W11.out.on b); clear ry b)
        | (go_at_call 24; (with_reducible refine (HD2.out w12 W12.out O12.out).mono ?_); rintro e w13 ⟨y, rfl, ry, b⟩; obtain ⟨ya12, yc12, rfl, _⟩ := ry.shape; have V13 := Lib.hid ry; have U13 := Lib.hid (U12.out.below b U12.out.lt); have O13 := Lib.hid (O12.out.below b O12.out.lt); have K13 := Lib.hid (K12.out.below b K12.out.lt); have M13 := Lib.hid (M12.out.below b M12.out.lt); have Y13 := Lib.hid (Y12.out.below b); have W13 := Lib.hid (W12.out.on b); clear ry b))
      go_upto_region 15 with ((fail_if_success (with_reducible show bodyPost _ _ _ _ _ _)); first
        | (refine wpList_load_mid rfl 30 (.tmp 13) rfl w6.heap.size 0 rfl N2 _ U13.out.range Tryd.underlying30 rfl (by rw [N2656.out]; exact infoTb) ?_)
        | (go_at_call 25; (with_reducible refine (HREM.out w13 W13.out).mono ?_); rintro e w14 ⟨rfl, b⟩; have U14 := Lib.hid (U13.out.below b U13.out.lt); have O14 := Lib.hid (O13.out.below b O13.out.lt); have K14 := Lib.hid (K13.out.below b K13.out.lt); have M14 := Lib.hid (M13.out.below b M13.out.lt); have Y14 := Lib.hid (Y13.out.below b); have V14 := Lib.hid (V13.out.below b); have W14 := Lib.hid (W13.out.on b); clear b)
        | (refine wpList_store_blk rfl 30 (.tmp 25) (.tmp 115) rfl w14.heap.size 0 Z0 rfl rfl 30 Z0 (Blk.new w14 30 Z0 _ rfl) (Nat.le_of_eq (Nat.zero_add _)) (by rw [hz656]; exact infoTb) ZONE.out ?_; intro w15 b g; rw [splice_all _ _ (rfl)] at b; have hb := alloc_turn (Below.refl _ _) g; have U15 := Lib.hid (U14.out.below hb U14.out.lt); have K15 := Lib.hid (K14.out.below hb K14.out.lt); have M15 := Lib.hid (M14.out.below hb M14.out.lt); have Y15 := Lib.hid (Y14.out.below hb); have V15 := Lib.hid (V14.out.below hb); have W15 := Lib.hid (W14.out.on hb); clear b g hb))
      rcases HEC.out with rfl | rfl
      · rw [decide_eq_true rfl] at HSO1
        have HSO := HSO1
        by_cases hq : SA = SB
        · have hss : ∀ w, (binOp .eql 9 (.string SA) (.string SB)).run Tryd.prog w = .ok (.bool true) w := fun w => by rw [HSS.out w, decide_eq_true hq]
          clear hq
          go_wp2_with ((fail_if_success (with_reducible show bodyPost _ _ _ _ _ _)); first
            | (refine wpList_load_mid rfl 25 (.tmp 15) rfl w8.heap.size 0 rfl (row8 M) _ M15.out.range Tryd.underlying25 rfl (by rw [M32.out]; exact infoK2) ?_)
            | (refine wpList_load_mid rfl 25 (.tmp 9) rfl w2.heap.size 0 rfl (row8 M) _ K15.out.range Tryd.underlying25 rfl (by rw [M32.out]; exact infoK2) ?_)
            | (refine wpList_bin rfl (b := .eql) (t := 25) (x := .tmp 117) (y := .tmp 118) rfl (.bool true) rfl rfl (run_eqGuard_agg _ _ _ _ _ _ _ eqTypeKW) (hkk _) ?_)
            | (refine wpList_wanted rfl (.string SA) (ex_convert (x := .tmp 128) rfl rfl (HSA.out w15 _ Y15.out)) ?_)
            | (refine wpList_wanted rfl (.string SB) (ex_convert (x := .tmp 130) rfl rfl (HSB.out w15 _ V15.out)) ?_)
            | (refine wpList_wanted rfl (.bool true) (ex_binOp (x := .tmp 129) (y := .tmp 131) (b := .eql) (t := 9) rfl rfl rfl (by go_simp) (hss _)) ?_)
            | (go_at_call 15; (with_reducible refine (HAW.out w15 W15.out).mono ?_); rintro e wx ⟨rfl, b⟩; have WX := Lib.hid (W15.out.on b); clear b))
          go_ret
          exact ⟨rfl, WX.out⟩
        · have hss : ∀ w, (binOp .eql 9 (.string SA) (.string SB)).run Tryd.prog w = .ok (.bool false) w := fun w => by rw [HSS.out w, decide_eq_false hq]
          clear hq
          go_wp2_with ((fail_if_success (with_reducible show bodyPost _ _ _ _ _ _)); first
            | (refine wpList_load_mid rfl 25 (.tmp 15) rfl w8.heap.size 0 rfl (row8 M) _ M15.out.range Tryd.underlying25 rfl (by rw [M32.out]; exact infoK2) ?_)
            | (refine wpList_load_mid rfl 25 (.tmp 9) rfl w2.heap.size 0 rfl (row8 M) _ K15.out.range Tryd.underlying25 rfl (by rw [M32.out]; exact infoK2) ?_)
            | (refine wpList_bin rfl (b := .eql) (t := 25) (x := .tmp 117) (y := .tmp 118) rfl (.bool true) rfl rfl (run_eqGuard_agg _ _ _ _ _ _ _ eqTypeKW) (hkk _) ?_)
            | (refine wpList_wanted rfl (.string SA) (ex_convert (x := .tmp 128) rfl rfl (HSA.out w15 _ Y15.out)) ?_)
            | (refine wpList_wanted rfl (.string SB) (ex_convert (x := .tmp 130) rfl rfl (HSB.out w15 _ V15.out)) ?_)
            | (refine wpList_wanted rfl (.bool false) (ex_binOp (x := .tmp 129) (y := .tmp 131) (b := .eql) (t := 9) rfl rfl rfl (by go_simp) (hss _)) ?_)
            | (refine wpList_load_wanted rfl 30 (.tmp 13) rfl w6.heap.size 0 rfl N2 _ U15.out.range Tryd.underlying30 rfl (by rw [N2656.out]; exact infoTb) ?_)
            | (go_at_call 26; (with_reducible refine (HSO.out w15 W15.out).mono ?_); rintro e w16 ⟨rfl, b⟩; have W16 := Lib.hid (W15.out.on b); clear b)
            | (go_at_call 15; (with_reducible refine (HAW.out w16 W16.out).mono ?_); rintro e wx ⟨rfl, b⟩; have WX := Lib.hid (W16.out.on b); clear b))
          go_ret
          exact ⟨rfl, WX.out⟩
      · skip
        go_wp2_with ((fail_if_success (with_reducible show bodyPost _ _ _ _ _ _)); first
          | (refine wpList_load_mid rfl 25 (.tmp 15) rfl w8.heap.size 0 rfl (row8 M) _ M15.out.range Tryd.underlying25 rfl (by rw [M32.out]; exact infoK2) ?_)
          | (refine wpList_load_mid rfl 25 (.tmp 9) rfl w2.heap.size 0 rfl (row8 M) _ K15.out.range Tryd.underlying25 rfl (by rw [M32.out]; exact infoK2) ?_)
          | (refine wpList_bin rfl (b := .eql) (t := 25) (x := .tmp 117) (y := .tmp 118) rfl (.bool true) rfl rfl (run_eqGuard_agg _ _ _ _ _ _ _ eqTypeKW) (hkk _) ?_)
          | (go_at_call 15; (with_reducible refine (HAW.out w15 W15.out).mono ?_); rintro e wx ⟨rfl, b⟩; have WX := Lib.hid (W15.out.on b); clear b))
        go_ret
        exact ⟨rfl, WX.out⟩
    · obtain ⟨N2, hN2⟩ : ∃ N, N = tbc (rotate T1 l0 l1 s2 (kn : Int)) := ⟨_, rfl⟩
      have hrz : rotate T1 l0 l1 s2 (kn : Int) = zero := by unfold rotate; rw [hterr, if_neg hc]
      have N2656 := Lib.hid (show N2.length = 656 by rw [hN2, hrz]; exact tbc_len zero_ok)
      have N2ONE := Lib.hid (show N2.toArray.all (·.oneCell') = true by rw [hN2]; exact tbc_all _)
      rw [← hN2, ← hol, ← hfl] at HROT0
      have hcc := comes_cases T1 l1 (kn : Int)
      have hlz : ¬ (512 : Int) < (ol : Int) := by omega
      by_cases hlf : 512 < fl
      · have e5 : comes T1 l1 (kn : Int) = 5 := by unfold comes; rw [if_pos (by rw [← hfl]; exact hlf)]
        rw [e5] at HROT0
        have HROT := Lib.hid HROT0
        have hlg : (512 : Int) < (fl : Int) := by omega
        rw [← hol, ← hfl]
        clear HROT0 hN2 hrz hcc hc e5 hterr hN1 hT1 hza hs1ok hop h0 h1 hol hfl hs1 hs2 hM hS1 hS2 hZ0 b1 b2 bM hkn hk1 hk2 hn TX TK TA TP hp0 hlf
        go_enter Tryd.func8, Tryd.ntmps8
        go_upto_region 4 with ((fail_if_success (with_reducible show bodyPost _ _ _ _ _ _)); first
          | (refine wpList_buildTo rfl 23 _ rfl (some 28) rfl S1.toArray (Eq.trans (b := Tryd.prog.built 23 [(0, .int .u8 1), (1, .int .u8 (n : Int))]) (by kernel_rfl) HB1.out) ?_)
          | (refine wpList_buildTo rfl 23 _ rfl (some 30) rfl S2.toArray (Eq.trans (b := Tryd.prog.built 23 [(0, .int .u8 2), (1, .int .u8 (n : Int))]) (by kernel_rfl) HB2.out) ?_)
          | (refine wpList_store_blk rfl 23 (.tmp 7) (.tmp 28) rfl w.heap.size 0 S1 rfl rfl 23 D6 ((Blk.new w 23 D6 _ rfl).alloc _) (by rw [S16.out, hd6]; exact Nat.le_refl _) (by rw [S16.out]; exact info162) S1ONE.out ?_; intro w1 b g; rw [splice_all _ _ (by rw [S16.out, hd6])] at b; have A1 := Lib.hid b; have O1 := Lib.hid (OZ.out.grown g (fun e => by have := Option.some.inj e; omega)); have W1 := Lib.hid (WZ.out.grown g WZ.out.size (fun g hg => by have := Option.some.inj hg; omega)); clear b g)
          | (refine wpList_store_blk rfl 23 (.tmp 8) (.tmp 30) rfl (w.heap.size + 1) 0 S2 rfl rfl 23 D6 O1.out (by rw [S162.out, hd6]; exact Nat.le_refl _) (by rw [S162.out]; exact info162) S2ONE.out ?_; intro w2 b g; rw [splice_all _ _ (by rw [S162.out, hd6])] at b; have O2 := Lib.hid b; have A2 := Lib.hid (A1.out.grown g (fun e => by have := Option.some.inj e; omega)); have W2 := Lib.hid (W1.out.grown g W1.out.size (fun g hg => by have := Option.some.inj hg; omega)); clear b g)
          | (refine wpList_buildTo rfl 25 _ rfl (some 32) rfl (row8 M).toArray (Eq.trans (b := Tryd.prog.built 25 [(0, .int .u8 (n : Int)), (1, .int .u8 9)]) (by kernel_rfl) HBM.out) ?_)
          | (refine wpList_store_blk rfl 25 (.tmp 9) (.tmp 32) rfl w2.heap.size 0 (row8 M) rfl rfl 25 D0 (Blk.new w2 25 D0 _ rfl) (by rw [M32.out, hd0]; exact Nat.le_refl _) (by rw [M32.out]; exact infoK2) (row8_one _) ?_; intro w3 b g; rw [splice_all _ _ (by rw [M32.out, hd0])] at b; have hb := alloc_turn (Below.refl _ _) g; have K3 := Lib.hid b; have A3 := Lib.hid (A2.out.below hb A2.out.lt); have O3 := Lib.hid (O2.out.below hb O2.out.lt); have W3 := Lib.hid (W2.out.on hb); clear b g hb))
        go_upto_region 5 with ((fail_if_success (with_reducible show bodyPost _ _ _ _ _ _)); first
          | (refine wpList_buildTo rfl 30 _ rfl (some 38) rfl Z0.toArray (Eq.trans (b := Tryd.prog.built 30 []) (by kernel_rfl) hbz) ?_)
          | (refine wpList_load_mid rfl 23 (.tmp 7) rfl w.heap.size 0 rfl S1 _ A3.out.range Tryd.underlying23 rfl (by rw [S16.out]; exact info162) ?_)
          | (refine wpList_load_mid rfl 25 (.tmp 9) rfl w2.heap.size 0 rfl (row8 M) _ K3.out.range Tryd.underlying25 rfl (by rw [M32.out]; exact infoK2) ?_)
          | (go_at_call 22; (with_reducible refine (HADD.out w3 W3.out).mono ?_); rintro e w4 ⟨rfl, b⟩; have A4 := Lib.hid (A3.out.below b A3.out.lt); have O4 := Lib.hid (O3.out.below b O3.out.lt); have K4 := Lib.hid (K3.out.below b K3.out.lt); have W4 := Lib.hid (W3.out.on b); clear b)
          | (refine wpList_store_blk rfl 30 (.tmp 11) (.tmp 44) rfl w4.heap.size 0 N1 rfl rfl 30 Z0 (Blk.new w4 30 Z0 _ rfl) (by rw [N1656.out, hz656]; exact Nat.le_refl _) (by rw [N1656.out]; exact infoTb) N1ONE.out ?_; intro w5 b g; rw [splice_all _ _ (by rw [N1656.out, hz656])] at b; have hb := alloc_turn (Below.refl _ _) g; have T5 := Lib.hid b; have O5 := Lib.hid (O4.out.below hb O4.out.lt); have K5 := Lib.hid (K4.out.below hb K4.out.lt); have W5 := Lib.hid (W4.out.on hb); clear b g hb))
        go_upto_region 8 with ((fail_if_success (with_reducible show bodyPost _ _ _ _ _ _)); first
          | (refine wpList_load_mid rfl 30 (.tmp 11) rfl w4.heap.size 0 rfl N1 _ T5.out.range Tryd.underlying30 rfl (by rw [N1656.out]; exact infoTb) ?_)
          | (refine wpList_load_mid rfl 23 (.tmp 8) rfl (w.heap.size + 1) 0 rfl S2 _ O5.out.range Tryd.underlying23 rfl (by rw [S162.out]; exact info162) ?_)
          | (go_at_call 23; (with_reducible refine (HROT.out w5 W5.out).mono ?_); rintro e w6 ⟨rfl, b⟩; have O6 := Lib.hid (O5.out.below b O5.out.lt); have K6 := Lib.hid (K5.out.below b K5.out.lt); have W6 := Lib.hid (W5.out.on b); clear b)
          | (refine wpList_store_blk rfl 30 (.tmp 13) (.tmp 65) rfl w6.heap.size 0 N2 rfl rfl 30 Z0 (Blk.new w6 30 Z0 _ rfl) (by rw [N2656.out, hz656]; exact Nat.le_refl _) (by rw [N2656.out]; exact infoTb) N2ONE.out ?_; intro w7 b g; rw [splice_all _ _ (by rw [N2656.out, hz656])] at b; have hb := alloc_turn (Below.refl _ _) g; have U7 := Lib.hid b; have O7 := Lib.hid (O6.out.below hb O6.out.lt); have K7 := Lib.hid (K6.out.below hb K6.out.lt); have W7 := Lib.hid (W6.out.on hb); clear b g hb))
        go_wp2_with ((fail_if_success (with_reducible show bodyPost _ _ _ _ _ _)); first
          | (go_at_call 15; (with_reducible refine (HAW.out w7 W7.out).mono ?_); rintro e wx ⟨rfl, b⟩; have WX := Lib.hid (W7.out.on b); clear b))
        go_ret
        exact ⟨rfl, WX.out⟩
      · have e23 : comes T1 l1 (kn : Int) = 23 := by
          unfold comes at hc ⊢
          rw [if_neg (by omega), if_neg (by omega)] at hc ⊢
          split
          · rfl
          · rename_i q; rw [if_neg q] at hc; exact absurd rfl hc
        rw [e23] at HROT0
        have HROT := Lib.hid HROT0
        have hlg : ¬ (512 : Int) < (fl : Int) := by omega
        rw [← hol, ← hfl]
        clear HROT0 hN2 hrz hcc hc e23 hterr hN1 hT1 hza hs1ok hop h0 h1 hol hfl hs1 hs2 hM hS1 hS2 hZ0 b1 b2 bM hkn hk1 hk2 hn TX TK TA TP hp0 hlf
        go_enter Tryd.func8, Tryd.ntmps8
        go_upto_region 4 with ((fail_if_success (with_reducible show bodyPost _ _ _ _ _ _)); first
          | (refine wpList_buildTo rfl 23 _ rfl (some 28) rfl S1.toArray (Eq.trans (b := Tryd.prog.built 23 [(0, .int .u8 1), (1, .int .u8 (n : Int))]) (by kernel_rfl) HB1.out) ?_)
          | (refine wpList_buildTo rfl 23 _ rfl (some 30) rfl S2.toArray (Eq.trans (b := Tryd.prog.built 23 [(0, .int .u8 2), (1, .int .u8 (n : Int))]) (by kernel_rfl) HB2.out) ?_)
          | (refine wpList_store_blk rfl 23 (.tmp 7) (.tmp 28) rfl w.heap.size 0 S1 rfl rfl 23 D6 ((Blk.new w 23 D6 _ rfl).alloc _) (by rw [S16.out, hd6]; exact Nat.le_refl _) (by rw [S16.out]; exact info162) S1ONE.out ?_; intro w1 b g; rw [splice_all _ _ (by rw [S16.out, hd6])] at b; have A1 := Lib.hid b; have O1 := Lib.hid (OZ.out.grown g (fun e => by have := Option.some.inj e; omega)); have W1 := Lib.hid (WZ.out.grown g WZ.out.size (fun g hg => by have := Option.some.inj hg; omega)); clear b g)
          | (refine wpList_store_blk rfl 23 (.tmp 8) (.tmp 30) rfl (w.heap.size + 1) 0 S2 rfl rfl 23 D6 O1.out (by rw [S162.out, hd6]; exact Nat.le_refl _) (by rw [S162.out]; exact info162) S2ONE.out ?_; intro w2 b g; rw [splice_all _ _ (by rw [S162.out, hd6])] at b; have O2 := Lib.hid b; have A2 := Lib.hid (A1.out.grown g (fun e => by have := Option.some.inj e; omega)); have W2 := Lib.hid (W1.out.grown g W1.out.size (fun g hg => by have := Option.some.inj hg; omega)); clear b g)
          | (refine wpList_buildTo rfl 25 _ rfl (some 32) rfl (row8 M).toArray (Eq.trans (b := Tryd.prog.built 25 [(0, .int .u8 (n : Int)), (1, .int .u8 9)]) (by kernel_rfl) HBM.out) ?_)
          | (refine wpList_store_blk rfl 25 (.tmp 9) (.tmp 32) rfl w2.heap.size 0 (row8 M) rfl rfl 25 D0 (Blk.new w2 25 D0 _ rfl) (by rw [M32.out, hd0]; exact Nat.le_refl _) (by rw [M32.out]; exact infoK2) (row8_one _) ?_; intro w3 b g; rw [splice_all _ _ (by rw [M32.out, hd0])] at b; have hb := alloc_turn (Below.refl _ _) g; have K3 := Lib.hid b; have A3 := Lib.hid (A2.out.below hb A2.out.lt); have O3 := Lib.hid (O2.out.below hb O2.out.lt); have W3 := Lib.hid (W2.out.on hb); clear b g hb))
        go_upto_region 5 with ((fail_if_success (with_reducible show bodyPost _ _ _ _ _ _)); first
          | (refine wpList_buildTo rfl 30 _ rfl (some 38) rfl Z0.toArray (Eq.trans (b := Tryd.prog.built 30 []) (by kernel_rfl) hbz) ?_)
          | (refine wpList_load_mid rfl 23 (.tmp 7) rfl w.heap.size 0 rfl S1 _ A3.out.range Tryd.underlying23 rfl (by rw [S16.out]; exact info162) ?_)
          | (refine wpList_load_mid rfl 25 (.tmp 9) rfl w2.heap.size 0 rfl (row8 M) _ K3.out.range Tryd.underlying25 rfl (by rw [M32.out]; exact infoK2) ?_)
          | (go_at_call 22; (with_reducible refine (HADD.out w3 W3.out).mono ?_); rintro e w4 ⟨rfl, b⟩; have A4 := Lib.hid (A3.out.below b A3.out.lt); have O4 := Lib.hid (O3.out.below b O3.out.lt); have K4 := Lib.hid (K3.out.below b K3.out.lt); have W4 := Lib.hid (W3.out.on b); clear b)
          | (refine wpList_store_blk rfl 30 (.tmp 11) (.tmp 44) rfl w4.heap.size 0 N1 rfl rfl 30 Z0 (Blk.new w4 30 Z0 _ rfl) (by rw [N1656.out, hz656]; exact Nat.le_refl _) (by rw [N1656.out]; exact infoTb) N1ONE.out ?_; intro w5 b g; rw [splice_all _ _ (by rw [N1656.out, hz656])] at b; have hb := alloc_turn (Below.refl _ _) g; have T5 := Lib.hid b; have O5 := Lib.hid (O4.out.below hb O4.out.lt); have K5 := Lib.hid (K4.out.below hb K4.out.lt); have W5 := Lib.hid (W4.out.on hb); clear b g hb))
        go_upto_region 8 with ((fail_if_success (with_reducible show bodyPost _ _ _ _ _ _)); first
          | (refine wpList_load_mid rfl 30 (.tmp 11) rfl w4.heap.size 0 rfl N1 _ T5.out.range Tryd.underlying30 rfl (by rw [N1656.out]; exact infoTb) ?_)
          | (refine wpList_load_mid rfl 23 (.tmp 8) rfl (w.heap.size + 1) 0 rfl S2 _ O5.out.range Tryd.underlying23 rfl (by rw [S162.out]; exact info162) ?_)
          | (go_at_call 23; (with_reducible refine (HROT.out w5 W5.out).mono ?_); rintro e w6 ⟨rfl, b⟩; have O6 := Lib.hid (O5.out.below b O5.out.lt); have K6 := Lib.hid (K5.out.below b K5.out.lt); have W6 := Lib.hid (W5.out.on b); clear b)
          | (refine wpList_store_blk rfl 30 (.tmp 13) (.tmp 65) rfl w6.heap.size 0 N2 rfl rfl 30 Z0 (Blk.new w6 30 Z0 _ rfl) (by rw [N2656.out, hz656]; exact Nat.le_refl _) (by rw [N2656.out]; exact infoTb) N2ONE.out ?_; intro w7 b g; rw [splice_all _ _ (by rw [N2656.out, hz656])] at b; have hb := alloc_turn (Below.refl _ _) g; have U7 := Lib.hid b; have O7 := Lib.hid (O6.out.below hb O6.out.lt); have K7 := Lib.hid (K6.out.below hb K6.out.lt); have W7 := Lib.hid (W6.out.on hb); clear b g hb))
        go_wp2_with ((fail_if_success (with_reducible show bodyPost _ _ _ _ _ _)); first
          | (go_at_call 15; (with_reducible refine (HAW.out w7 W7.out).mono ?_); rintro e wx ⟨rfl, b⟩; have WX := Lib.hid (W7.out.on b); clear b))
        go_ret
        exact ⟨rfl, WX.out⟩
set_option maxRecDepth 100000 in
theorem reads (os : Os) {H : Type} (enc : TypeId × Value → H) : ∃ places, DataW.whole enc Tryd.prog ((World.doorLaid Tryd.prog 400 os).forCall (fun _ _ => 0) ⟨#[], #[.slice none 0 0, .slice none 0 0, .int .u8 0], []⟩).memory Tryd.f8.params.toList Rows.slotsRotatesSpec.vars false (#[.slice none 0 0, .slice none 0 0, .int .u8 0] : Array Value).toList 8 = some ([.nil, .nil, .lit (.int .u8 0)], [], places) :=
  ⟨[], by kernel_rfl⟩
set_option linter.unusedVariables false in
set_option maxHeartbeats 1000000 in
set_option maxRecDepth 100000 in
theorem lifted (os : Os) (started : os.Started) (H : Type) (enc : TypeId × Value → H) (F : Stop.Interp) :
    ReturnsInHanded {} Tryd.checked os 8 .any ((OpenSpec.ofChange Rows.slotsRotatesSpec).preRow enc Tryd.prog Tryd.f8 Rows.slotsRotatesRow.domain false laidXKAPs) (((OpenSpec.ofChange Rows.slotsRotatesSpec).at F).post enc Tryd.prog Tryd.f8 false true false false) := by
  obtain ⟨places, hx⟩ := reads os enc
  refine returnsInHanded_of_row (C := Tryd.checked) (s := OpenSpec.ofChange Rows.slotsRotatesSpec) own started (by kernel_rfl) Tryd.func8
    (witness_row_atRef (enc := enc) (C := Tryd.checked) false (World.doorLaid Tryd.prog 400 os) #[.slice none 0 0, .slice none 0 0, .int .u8 0] rfl (by kernel_rfl) (by kernel_rfl) (by kernel_rfl)
      (OpenSpec.preRow_of_cond 8 hx (by kernel_rfl) (fun k hk => by cases hk) (by kernel_rfl) (doorXKAPs_met os _))) ?_
  intro W base args ds gs before hval0 hW _ hcond hsz0 hL _ _
  have hsz : (DataW.weightsEach Tryd.prog (Tryd.f8.params.toList ++ Rows.slotsRotatesSpec.plain.varTypes Tryd.prog) (ds ++ gs)).all (· ≤ reachBytes) = true := hsz0
  clear hsz0
  have hval : ∀ (j : Nat) t v, Tryd.f8.params[j]? = some t → args[j]? = some v → Value.okWide Tryd.prog W .any base t v := hval0
  have hW' := hW
  obtain ⟨p, q, hA0, hV, rfl, _, _⟩ := hW
  have hA : DataW.TrodAll enc Tryd.prog W 0 (fun _ => true) true Tryd.f8.params.toList args.toList ds p := hA0
  rw [Tryd.params8] at hA hval hsz
  obtain ⟨v0, vs0, d0, ds0, p0, q0, hargs, rfl, rfl, g0, r0⟩ := trodAll_cons hA
  obtain ⟨v1, vs1, d1, ds1, p1, q1, rfl, rfl, rfl, g1, r1⟩ := trodAll_cons r0
  obtain ⟨v2, vs2, d2, ds2, p2, q2, rfl, rfl, rfl, g2, r2⟩ := trodAll_cons r1
  obtain ⟨rfl, rfl, rfl⟩ := trodAll_nil r2
  obtain rfl : args = #[v0, v1, v2] := by cases args; simp_all
  obtain ⟨rfl, rfl⟩ := trodVars_none hV
  obtain ⟨l0, h0⟩ := open_bytes (hval 0 31 v0 rfl rfl) g0 (fun elems spare e => sized_slice hsz (j := 0) (t := 31) (e := 5) rfl (by rw [← e]; rfl) Tryd.underlying31)
  obtain ⟨l1, h1⟩ := open_bytes (hval 1 31 v1 rfl rfl) g1 (fun elems spare e => sized_slice hsz (j := 1) (t := 31) (e := 5) rfl (by rw [← e]; rfl) Tryd.underlying31)
  obtain ⟨a2, rfl, rfl, rfl, w2⟩ := open_int Tryd.underlying5 (hval 2 5 v2 rfl rfl) g2
  clear hA0 hval0
  have hlt := hW'.lt
  refine (walk W (tabsXKAPs_of_laid hL) v0 l0 h0 v1 l1 h1 a2 w2).mono fun e W' ⟨he, hb⟩ => ?_
  subst he
  have hargs : DataW.TrodAll enc Tryd.prog W' 0 (fun b => decide (b < W.heap.size)) true _ _ _ _ := (trodAll_cons_mk (Below.trod laidOut (by kernel_rfl) (of_decide_eq_true (by kernel_rfl)) g0 hb (fun x hx => hlt x (by simp [hx]))) (trodAll_cons_mk (Below.trod laidOut (by kernel_rfl) (of_decide_eq_true (by kernel_rfl)) g1 hb (fun x hx => hlt x (by simp [hx]))) (trodAll_cons_mk (shut_int Tryd.underlying5 w2) trodAll_mk0)))
  simp only [List.append_nil] at hW' hargs
  exact ⟨_, rfl, post_law hW' (trodAll_cons_mk (shut_bool Tryd.underlying4 _) trodAll_mk0) hargs rfl hb⟩
theorem over : Rows.slotsRotatesRow.holds Tryd.pinned (OpenSpec.ofChange Rows.slotsRotatesSpec) :=
  OpenClaim.holds_of_cond 8 Tryd.f8 rfl rfl rfl rfl rfl rfl rfl ⟨rfl, rfl, rfl, rfl, rfl⟩ rfl rfl rfl rfl rfl (by kernel_rfl) Tryd.func8 (by kernel_rfl)
    (of_decide_eq_true (by kernel_rfl)) (by unfold Func.isWrapper; first | (rw [if_pos (by decide +kernel)]; kernel_rfl) | (rw [if_neg (by decide +kernel)]; exact ⟨rfl, rfl⟩))
    (fun os started H enc _ F => by rw [OpenClaim.pre_eq_preRow]; exact lifted os started H enc F)

/-- The given statement. -/
theorem proved : Rows.SlotsRotatesCardSaid :=
  Claim7.holds_tied_plain_at .later [] _ _ _ _
    over (fun _ h => by cases h) (by kernel_rfl) (fun _ h => by cases h) slotsRotates_row_tie rfl ⟨rfl, rfl⟩ (by kernel_rfl) rfl
    (fun f fn hf hfn => by
      obtain rfl : f = 8 := Option.some.inj ((show Tryd.prog.funcNamed "reliquary/reliquarylaw12.SlotsRotates" = some 8 by kernel_rfl).symm.trans hf) |>.symm
      obtain rfl : fn = Tryd.f8 := (Option.some.inj (Tryd.func8.symm.trans hfn)).symm
      exact ⟨by kernel_rfl, fun j t ht => by
        rw [Tryd.params8] at ht
        have hm : t ∈ [31, 31, 5] := by simpa using Array.mem_of_getElem? ht
        have hall : ([31, 31, 5].all fun u => !Tryd.prog.wantsStandIn u) = true := by kernel_rfl
        exact (show Tryd.prog.wantsStandIn t = false by simpa using List.all_eq_true.1 hall t hm)⟩)
    (by kernel_rfl)
end Go.Proofs.YtbepchikngoknaaDoor.slotsRotates
