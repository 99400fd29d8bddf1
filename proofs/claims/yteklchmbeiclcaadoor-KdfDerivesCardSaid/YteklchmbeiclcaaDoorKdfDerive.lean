/- The document's keys of passphrases: the whole: contract. Own work. -/
import Derived.Test.YteklchmbeiclcaaDoorKdfRef
namespace Go.Proofs.YteklchmbeiclcaaDoor
open Go.ChangeShapes Go.WideShapes Go.ChangeAt Go.RowKit
open SM
set_option maxRecDepth 100000 in
set_option maxHeartbeats 4000000 in
theorem rderive_any (p s : List Nat) (t z : Int) (u v : Value) (w : World) (hu : Rd w u p) (hv : Rd w v s) (ht : Tab w) :
    Calls Tryd.prog 11 #[u, v, .int .i64 t, .int .i64 z] w fun e w' => ∃ y, e = .returned (.tuple #[y, .int .i64 (kerr p s t z)]) ∧ Rd w' y (kres p s t z) ∧ Below w.heap.size w w' := by
  obtain ⟨au, cu, rfl, hcu⟩ := hu.shape
  obtain ⟨av, cv, rfl, hcv⟩ := hv.shape
  have HU := Lib.hid hu
  have HV := Lib.hid hv
  have HT := Lib.hid ht
  have HE := Lib.hid (fun (x : Int) (h : kerr p s t z = x) (h0 : x ≠ 0) => (show kres p s t z = [] by unfold kres; rw [if_neg (by rw [h]; exact h0)]))
  clear hu hv ht
  by_cases h1 : 512 < p.length
  · have h1I : (512 : Int) < (p.length : Int) := by omega
    have hk : kerr p s t z = 5 := by unfold kerr; rw [if_pos (.inl h1)]
    have HK := Lib.hid hk
    clear hk
    go_enter Tryd.func11, Tryd.ntmps11
    go_wp2_with fail
    go_ret2
    exact ⟨.slice none 0 0, by rw [HK.out]; rfl, by rw [HE.out 5 HK.out (by omega)]; exact Rd.none_ w, Below.refl _ _⟩
  have h1I : ¬ (512 : Int) < (p.length : Int) := by omega
  by_cases h2 : 1024 < s.length
  · have h2I : (1024 : Int) < (s.length : Int) := by omega
    have hk : kerr p s t z = 5 := by unfold kerr; rw [if_pos (.inr h2)]
    have HK := Lib.hid hk
    clear hk
    go_enter Tryd.func11, Tryd.ntmps11
    go_wp2_with fail
    go_ret2
    exact ⟨.slice none 0 0, by rw [HK.out]; rfl, by rw [HE.out 5 HK.out (by omega)]; exact Rd.none_ w, Below.refl _ _⟩
  have h2I : ¬ (1024 : Int) < (s.length : Int) := by omega
  have h12 : ¬ (512 < p.length ∨ 1024 < s.length) := by omega
  by_cases h3 : t < 1 ∨ 4096 < t ∨ z < 0 ∨ 1024 < z
  · have hk : kerr p s t z = 2 := by unfold kerr; rw [if_neg h12, if_pos h3]
    have HK := Lib.hid hk
    clear hk
    by_cases t1 : t < 1
    · go_enter Tryd.func11, Tryd.ntmps11
      go_wp2_with fail
      go_ret2
      exact ⟨.slice none 0 0, by rw [HK.out]; rfl, by rw [HE.out 2 HK.out (by omega)]; exact Rd.none_ w, Below.refl _ _⟩
    by_cases t2 : 4096 < t
    · go_enter Tryd.func11, Tryd.ntmps11
      go_wp2_with fail
      go_ret2
      exact ⟨.slice none 0 0, by rw [HK.out]; rfl, by rw [HE.out 2 HK.out (by omega)]; exact Rd.none_ w, Below.refl _ _⟩
    by_cases z1 : z < 0
    · go_enter Tryd.func11, Tryd.ntmps11
      go_wp2_with fail
      go_ret2
      exact ⟨.slice none 0 0, by rw [HK.out]; rfl, by rw [HE.out 2 HK.out (by omega)]; exact Rd.none_ w, Below.refl _ _⟩
    have z2 : 1024 < z := by omega
    go_enter Tryd.func11, Tryd.ntmps11
    go_wp2_with fail
    go_ret2
    exact ⟨.slice none 0 0, by rw [HK.out]; rfl, by rw [HE.out 2 HK.out (by omega)]; exact Rd.none_ w, Below.refl _ _⟩
  have hk : kerr p s t z = 0 := by unfold kerr; rw [if_neg h12, if_neg h3]
  obtain ⟨n, rfl⟩ : ∃ n : Nat, t = (n : Int) := ⟨t.toNat, by omega⟩
  obtain ⟨m, rfl⟩ : ∃ m : Nat, z = (m : Int) := ⟨z.toNat, by omega⟩
  have t1 : ¬ (n : Int) < 1 := by omega
  have t2 : ¬ (4096 : Int) < (n : Int) := by omega
  have z1 : ¬ (m : Int) < 0 := by omega
  have z2 : ¬ (1024 : Int) < (m : Int) := by omega
  have hr : kres p s (n : Int) (m : Int) = kder p s n m := by unfold kres; rw [if_pos hk]; simp
  have HK := Lib.hid hk
  have HR := Lib.hid hr
  obtain ⟨D0, hD0⟩ : ∃ C0, C0 = row8 (List.replicate 32 0) := ⟨_, rfl⟩
  have hzs : ∀ w, (zeroValue 39).run Tryd.prog w = .ok (.agg D0.toArray) w := by rw [hD0]; exact zeroSum
  have hd0 : D0.length = 32 := by rw [hD0, row8_len, List.length_replicate]
  clear hk hr hD0 HE h3
  go_enter Tryd.func11, Tryd.ntmps11
  go_wp2_with fail
  go_loopw [10, 11] (fun x i wr => ∃ k : Nat, 32 * k < m + 32 ∧ i = .int .i64 ((k : Int) + 1) ∧ Own wr w.heap.size x (kblocks p s n k) ∧ Below w.heap.size w wr) (fun x _ _ => m + 32 - vlen x)
  case atStart => exact ⟨0, by omega, rfl, own_nil w, Below.refl _ _⟩
  case round =>
    obtain ⟨k, hk, rfl, ho, bb⟩ := hrel
    obtain ⟨K, hKe⟩ : ∃ K, K = kblocks p s n k := ⟨_, rfl⟩
    rw [← hKe] at ho
    have hKL : K.length = 32 * k := by rw [hKe]; exact kblocks_len p s n k
    obtain ⟨ax, cx, rfl, hcx⟩ := ho.rd.shape
    by_cases hlt : K.length < m
    · have hltI : (K.length : Int) < (m : Int) := by omega
      have HKL := Lib.hid hKL
      obtain ⟨X, hX⟩ : ∃ X, X = kt p s (k + 1) (n - 1) := ⟨_, rfl⟩
      have bX : Bytes 32 X := by rw [hX]; exact kt_bytes _ _ _ _
      have HST := Lib.hid (show K ++ X = kblocks p s n (k + 1) by rw [hKe, hX]; exact kblocks_step p s n k)
      have F0 := rkblock_any p s n (k + 1) (by omega) (by omega) (by omega) (by omega) (by omega) (.slice au p.length cu) (.slice av s.length cv) wr (HU.out.below bb) (HV.out.below bb) (HT.out.below bb)
      rw [← hX, show ((k + 1 : Nat) : Int) = (k : Int) + 1 by omega] at F0
      have FF := Lib.hid F0
      have X32 := Lib.hid (show (row8 X).length = 32 by rw [row8_len]; exact bX.1)
      have HXB := Lib.hid bX
      have O0 := Lib.hid ho
      have B0 := Lib.hid bb
      clear F0 ho bb bX hX hKe hKL
      go_wp2_with (first
        | (go_at_call 17; (with_reducible refine FF.out.mono ?_); rintro e w2 ⟨rfl, b2⟩; have B2 := Lib.hid (B0.out.on b2); have O2 := Lib.hid (O0.out.below b2); clear b2)
        | (refine wpList_store_blk rfl 39 (.tmp 12) (.tmp 47) rfl w2.heap.size 0 (row8 X) rfl rfl 39 D0 (Blk.new w2 39 D0 _ rfl) (by rw [X32.out, hd0]; exact Nat.le_refl _) (by rw [X32.out]; exact infoS) (row8_one _) ?_; intro w3 b3 g3; rw [splice_all _ _ (by rw [X32.out, hd0])] at b3; have B3 := Lib.hid (own_turn B2.out g3); have O3 := Lib.hid ((O2.out.alloc (.cells D0.toArray 39)).keep g3 (.inr fun q => by have := (O2.out.from _ q).2; omega)); have r3 := blk_rd b3 HXB.out.2 (n := 32) (cap := 32) (by rw [HXB.out.1]; omega) (by omega) (by rw [HXB.out.1]; omega); rw [List.take_of_length_le (by rw [HXB.out.1]; omega)] at r3; have R3 := Lib.hid r3; clear b3 g3 r3)
        | (at_builtin; refine wpList_app rfl (.tmp 48) (.tmp 49) rfl w.heap.size (.slice ax K.length cx) (.slice (some ⟨w2.heap.size, 0, none⟩) 32 32) K X rfl rfl O3.out R3.out (by have := HXB.out.1; have := HKL.out; omega) B3.out.size ?_; intro y4 w4 o4 g4 k4; rw [HST.out] at o4; have O4 := Lib.hid o4; have B4 := Lib.hid (B3.out.grown g4 B3.out.size (fun k hk => (O3.out.from k hk).1)); clear o4 g4 k4))
      have hKL := HKL.out
      refine ⟨⟨k + 1, by omega, by go_num, O4.out, B4.out⟩, ?_⟩
      have e4 := O4.out.vlen
      rw [kblocks_len] at e4
      show m + 32 - vlen y4 < m + 32 - K.length
      omega
    · have hltI : ¬ (K.length : Int) < (m : Int) := by omega
      have p2 : (m : Int) ≤ (K.length : Int) := by omega
      have p3 : (m : Int) ≤ (cx : Int) := by omega
      have hcut : K.take m = kder p s n m := by rw [hKe]; exact kder_cut p s n k m (by omega)
      have R0 := Lib.hid (ho.rd.take m (by omega))
      rw [hcut] at R0
      have B0 := Lib.hid bb
      clear ho bb hKe hcut hKL
      go_wp2_with fail
      go_ret2
      exact ⟨.slice ax m cx, by rw [HK.out]; rfl, by rw [HR.out]; exact R0.out, B0.out⟩
end Go.Proofs.YteklchmbeiclcaaDoor
