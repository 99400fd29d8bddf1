/- A call on both sets: contract of the law's do. Own work. -/
import Derived.Test.YtlckhlcccifbfaaDoorAlAw
namespace Go.Proofs.YtlckhlcccifbfaaDoor
open Go.ChangeShapes Go.WideShapes Go.ChangeAt Go.RowKit
theorem row64_no32 (l : List Nat) : ∀ c ∈ row64 l, ∀ x, c ≠ .int .u32 x := by
  intro c hc x e
  subst e
  unfold row64 at hc
  simp at hc
/-- A slice of words, behind a call that changes a set's words alone. -/
theorem Wd.past {w w' : World} {b g T : Nat} {u : Nat → Bool} {v : Value} {l : List Nat} (h : Wd w v l) (hs : Sets w b g T u) (hg : w.grownBy w' (some g)) : Wd w' v l := by
  obtain ⟨ws, hA, _⟩ := hs
  exact h.besides hg hA.words (row64_no32 ws)
theorem Sets.tab {w : World} {b g T : Nat} {u : Nat → Bool} (h : Sets w b g T u) (hT : TabD w) : g ≠ 0 := by
  intro e
  obtain ⟨ws, hA, _⟩ := h
  have h1 := hT 0 (by omega)
  have hb := hA.words
  unfold Blk at hb
  unfold World.cell? at h1
  rw [e] at hb
  simp only [hb] at h1
  have h2 : (row64 ws)[0]? = some (.int .u8 ((gb Lib.deBruijn64tab 0 : Nat) : Int)) := by simpa using h1
  have h3 := List.mem_of_getElem? h2
  unfold row64 at h3
  simp at h3
theorem TabD.past {w w' : World} {b g T : Nat} {u : Nat → Bool} (h : TabD w) (hs : Sets w b g T u) (hg : w.grownBy w' (some g)) : TabD w' := h.grown hg (hs.tab h)
theorem only_join {a b c : World} {g k : Nat} (h : a.grownBy b (some g)) (hk : a.heap.size ≤ k) (q : b.grownBy c (some k)) : a.grownBy c (some g) :=
  ⟨q.os.trans h.os, q.tape.trans h.tape, q.output.trans h.output, Nat.le_trans h.size q.size, fun i hi hne => (q.block i (Nat.lt_of_lt_of_le hi h.size) (fun e => by have := Option.some.inj e; omega)).trans (h.block i hi hne)⟩
set_option maxHeartbeats 2000000 in
theorem ado_l (b g T : Nat) (u : Nat → Bool) (l : List Nat) (hl : l = AL.lst T u) (v : Value) (k n : Nat) (w : World) (hn : n < 4294967296) (hs : Sets w b g T u) (hv : Wd w v l) (hTab : TabD w) : Calls Tryd.prog 13 #[.pointer (some ⟨b, 0, none⟩), .agg (rs T v).toArray, .agg #[.int .u8 (k : Int), .int .u32 (n : Int)]] w fun e w' => ∃ u' v', e = .returned (.tuple #[.agg (rs T v').toArray, .bool true]) ∧ Sets w' b g T u' ∧ Wd w' v' (AL.lst T u') ∧ w.grownBy w' (some g) := by
  obtain ⟨ao, cap, rfl, hcap⟩ := hv.shape
  have hT := hs.most
  have HO := Lib.hid hs.out
  have HL := Lib.hid hl
  have HV := Lib.hid hv
  have HS := Lib.hid hs
  have HTB := Lib.hid hTab
  obtain ⟨hbl, hgl, hbg⟩ := hs.lt
  clear hv hl hs hTab
  go_enter Tryd.func13, Tryd.ntmps13
  go_upto_region 1 with (fail)
  obtain ⟨W0, hW0⟩ : ∃ W0, W0 = ((w.alloc (.cells (rs T (.slice ao l.length cap)).toArray 28)).alloc (.cells #[.int .u8 (k : Int), .int .u32 (n : Int)] 35)).alloc (.cells #[.int .i64 0, .slice none 0 0] 28) := ⟨_, rfl⟩
  have hb0 : Below w.heap.size w W0 := by rw [hW0]; exact (((Below.refl _ _).alloc (Nat.le_refl _) _).alloc (by simp) _).alloc (by simp; omega) _
  have k0 : Blk W0 w.heap.size 28 (rs T (.slice ao l.length cap)) := by rw [hW0]; exact ((Blk.new w _ _ _ rfl).alloc _).alloc _
  have k1 : Blk W0 (w.heap.size + 1) 35 [.int .u8 (k : Int), .int .u32 (n : Int)] := by rw [hW0]; exact (Blk.new _ _ _ _ (by simp)).alloc _
  have k2 : Blk W0 (w.heap.size + 2) 28 (rs 0 (.slice none 0 0)) := by rw [hW0]; exact Blk.new _ _ _ _ (by simp)
  have V0 := Lib.hid (HV.out.below hb0)
  have S0 := Lib.hid (HS.out.below hb0)
  have T0 := Lib.hid (HTB.out.below hb0)
  have E0 := Lib.hid (grown_of_below hb0 (some g))
  obtain ⟨z, hz⟩ : ∃ z, z = w.heap.size := ⟨_, rfl⟩
  have HZ := Lib.hid hz
  rw [← hz] at k0 k1 k2 hbl hgl
  have K0 := Lib.hid k0
  have K1 := Lib.hid k1
  have K2 := Lib.hid k2
  have ck0 := k1.cell 0 _ rfl
  have ck1 := k1.cell 1 _ rfl
  try rw [← hW0]
  rw [← hz]
  clear hW0 hb0 k0 k1 k2 hz
  by_cases hk0 : k % 4 = 0
  · have hkI : (k : Int) % 4 = 0 := by omega
    have HP := Lib.hid (amark_any b g T n u W0 S0.out)
    go_upto_region 4 with (first
      | (go_at_call 16; refine HP.out.mono ?_; rintro e1 w1 ⟨rfl, s1, g1⟩; have S1 := Lib.hid s1; have G1 := Lib.hid g1; clear s1 g1))
    have A0 := Lib.hid (Blk.grown K0.out G1.out (fun e => by have := Option.some.inj e; omega))
    have A1 := Lib.hid (Blk.grown K1.out G1.out (fun e => by have := Option.some.inj e; omega))
    have A2 := Lib.hid (Blk.grown K2.out G1.out (fun e => by have := Option.some.inj e; omega))
    have V1 := Lib.hid (V0.out.past S0.out G1.out)
    have E1 := Lib.hid (only_trans E0.out G1.out)
    have d0 := A1.out.cell 0 _ rfl
    have d1 := A1.out.cell 1 _ rfl
    have HR := Lib.hid (rmark_l T n u l HL.out _ w1 hn hT V1.out HO.out)
    obtain ⟨er, her⟩ : ∃ x, x = AL.merr T u n := ⟨_, rfl⟩
    rw [← her] at HR ⊢
    clear her HP K0 K1 K2 ck0 ck1
    go_upto_region 5 with (first
      | ((with_reducible show wpList _ _ _ (Oper.mk _ (.load _ (.tmp 4)) _ _ _ _ :: _) _ _); refine wpList_load_row rfl 28 (.tmp 4) rfl z rfl 28 _ (0, 0) _ A0.out Tryd.underlying28 rfl infoSet ?_)
      | (go_at_call 24; refine HR.out.mono ?_; rintro e2 w2 ⟨v2, rfl, hv2, hb2⟩; obtain ⟨L5, hL5⟩ : ∃ x, x = (AL.lst T (AL.mark T u n)).length := ⟨_, rfl⟩; obtain ⟨a5, k5, hsh, _⟩ := hv2.shape; rw [← hL5] at hsh; subst hsh; have V2 := Lib.hid hv2; have B2 := Lib.hid hb2; have A22 := Lib.hid (A2.out.below hb2 A2.out.lt); have S2 := Lib.hid (S1.out.below hb2); clear hv2 hb2 hL5)
      | ((with_reducible show wpList _ _ _ (Oper.mk _ (.store _ (.tmp 9) _) _ _ _ _ :: _) _ _); refine wpList_store_blk rfl 28 (.tmp 9) (.tmp 32) rfl (w2.heap.size) 0 (rs T (.slice a5 L5 k5)) rfl rfl 28 _ (Blk.new w2 28 (rs 0 (.slice none 0 0)) _ rfl) (Nat.le_refl _) infoSet (rs_one _ _ _ _) ?_; intro w3 hb hg; rw [splice_all _ _ (by rfl)] at hb; have R3 := Lib.hid hb; have G3 := Lib.hid hg; clear hb hg))
    have D3 := Lib.hid (below_then (w := w2) ((Below.refl _ _).alloc (Nat.le_refl _) _) G3.out (Nat.le_refl _))
    have A3 := Lib.hid (A22.out.below D3.out A22.out.lt)
    have V3 := Lib.hid (V2.out.below D3.out)
    have S3 := Lib.hid (S2.out.below D3.out)
    go_wp2_with (first
      | ((with_reducible show wpList _ _ _ (Oper.mk _ (.load _ (.tmp 9)) _ _ _ _ :: _) _ _); refine wpList_load_row rfl 28 (.tmp 9) rfl w2.heap.size rfl 28 _ (0, 0) _ R3.out Tryd.underlying28 rfl infoSet ?_)
      | ((with_reducible show wpList _ _ _ (Oper.mk _ (.store _ (.tmp 6) _) _ _ _ _ :: _) _ _); refine wpList_store_blk rfl 28 (.tmp 6) (.tmp 34) rfl (z + 2) 0 (rs T (.slice a5 L5 k5)) rfl rfl 28 _ A3.out (Nat.le_refl _) infoSet (rs_one _ _ _ _) ?_; intro w4 hb hg; rw [splice_all _ _ (by rfl)] at hb; have R4 := Lib.hid hb; have G4 := Lib.hid hg; clear hb hg))
    refine bodyPost_ret (results_mid2 rfl _ _ (z + 2) (rs T (.slice a5 L5 k5)) _ rfl R4.out.range Tryd.underlying28 rfl infoSet) rfl ⟨(AL.mark T u n), _, rfl, S3.out.grown G4.out (fun e => by have := Option.some.inj e; omega) (fun e => by have := Option.some.inj e; omega), V3.out.besides G4.out A3.out (rs_no32 _ _ _ _), ?_⟩
    exact only_join (only_trans E1.out (grown_of_below (B2.out.on D3.out) _)) (by have := HZ.out; omega) G4.out
  by_cases hk1 : k % 4 = 1
  · have hkI : (k : Int) % 4 = 1 := by omega
    have HP := Lib.hid (aclear_any b g T n u W0 S0.out)
    go_upto_region 8 with (first
      | (go_at_call 17; refine HP.out.mono ?_; rintro e1 w1 ⟨rfl, s1, g1⟩; have S1 := Lib.hid s1; have G1 := Lib.hid g1; clear s1 g1))
    have A0 := Lib.hid (Blk.grown K0.out G1.out (fun e => by have := Option.some.inj e; omega))
    have A1 := Lib.hid (Blk.grown K1.out G1.out (fun e => by have := Option.some.inj e; omega))
    have A2 := Lib.hid (Blk.grown K2.out G1.out (fun e => by have := Option.some.inj e; omega))
    have V1 := Lib.hid (V0.out.past S0.out G1.out)
    have E1 := Lib.hid (only_trans E0.out G1.out)
    have d0 := A1.out.cell 0 _ rfl
    have d1 := A1.out.cell 1 _ rfl
    have HR := Lib.hid (rclear_l T n u l HL.out _ w1 hn hT V1.out HO.out)
    obtain ⟨er, her⟩ : ∃ x, x = AL.cerr T u n := ⟨_, rfl⟩
    rw [← her] at HR ⊢
    clear her HP K0 K1 K2 ck0 ck1
    go_upto_region 9 with (first
      | ((with_reducible show wpList _ _ _ (Oper.mk _ (.load _ (.tmp 4)) _ _ _ _ :: _) _ _); refine wpList_load_row rfl 28 (.tmp 4) rfl z rfl 28 _ (0, 0) _ A0.out Tryd.underlying28 rfl infoSet ?_)
      | (go_at_call 25; refine HR.out.mono ?_; rintro e2 w2 ⟨v2, rfl, hv2, hb2⟩; obtain ⟨L5, hL5⟩ : ∃ x, x = (AL.lst T (AL.clear u n)).length := ⟨_, rfl⟩; obtain ⟨a5, k5, hsh, _⟩ := hv2.shape; rw [← hL5] at hsh; subst hsh; have V2 := Lib.hid hv2; have B2 := Lib.hid hb2; have A22 := Lib.hid (A2.out.below hb2 A2.out.lt); have S2 := Lib.hid (S1.out.below hb2); clear hv2 hb2 hL5)
      | ((with_reducible show wpList _ _ _ (Oper.mk _ (.store _ (.tmp 12) _) _ _ _ _ :: _) _ _); refine wpList_store_blk rfl 28 (.tmp 12) (.tmp 49) rfl (w2.heap.size) 0 (rs T (.slice a5 L5 k5)) rfl rfl 28 _ (Blk.new w2 28 (rs 0 (.slice none 0 0)) _ rfl) (Nat.le_refl _) infoSet (rs_one _ _ _ _) ?_; intro w3 hb hg; rw [splice_all _ _ (by rfl)] at hb; have R3 := Lib.hid hb; have G3 := Lib.hid hg; clear hb hg))
    have D3 := Lib.hid (below_then (w := w2) ((Below.refl _ _).alloc (Nat.le_refl _) _) G3.out (Nat.le_refl _))
    have A3 := Lib.hid (A22.out.below D3.out A22.out.lt)
    have V3 := Lib.hid (V2.out.below D3.out)
    have S3 := Lib.hid (S2.out.below D3.out)
    go_wp2_with (first
      | ((with_reducible show wpList _ _ _ (Oper.mk _ (.load _ (.tmp 12)) _ _ _ _ :: _) _ _); refine wpList_load_row rfl 28 (.tmp 12) rfl w2.heap.size rfl 28 _ (0, 0) _ R3.out Tryd.underlying28 rfl infoSet ?_)
      | ((with_reducible show wpList _ _ _ (Oper.mk _ (.store _ (.tmp 6) _) _ _ _ _ :: _) _ _); refine wpList_store_blk rfl 28 (.tmp 6) (.tmp 51) rfl (z + 2) 0 (rs T (.slice a5 L5 k5)) rfl rfl 28 _ A3.out (Nat.le_refl _) infoSet (rs_one _ _ _ _) ?_; intro w4 hb hg; rw [splice_all _ _ (by rfl)] at hb; have R4 := Lib.hid hb; have G4 := Lib.hid hg; clear hb hg))
    refine bodyPost_ret (results_mid2 rfl _ _ (z + 2) (rs T (.slice a5 L5 k5)) _ rfl R4.out.range Tryd.underlying28 rfl infoSet) rfl ⟨(AL.clear u n), _, rfl, S3.out.grown G4.out (fun e => by have := Option.some.inj e; omega) (fun e => by have := Option.some.inj e; omega), V3.out.besides G4.out A3.out (rs_no32 _ _ _ _), ?_⟩
    exact only_join (only_trans E1.out (grown_of_below (B2.out.on D3.out) _)) (by have := HZ.out; omega) G4.out
  have hkA : ¬ (k : Int) % 4 = 0 := by omega
  have hkB : ¬ (k : Int) % 4 = 1 := by omega
  have HP := Lib.hid (atake_any b g T u W0 S0.out T0.out)
  go_upto_region 11 with (first
    | (go_at_call 15; refine HP.out.mono ?_; rintro e1 w1 ⟨m, lm, rfl, s1, g1⟩; obtain ⟨tn, htn⟩ : ∃ x, x = tnum T m := ⟨_, rfl⟩; obtain ⟨te, hte⟩ : ∃ x, x = terr T m := ⟨_, rfl⟩; rw [← htn, ← hte]; have TN := Lib.hid htn; have TE := Lib.hid hte; have LM := Lib.hid lm; have S1 := Lib.hid s1; have G1 := Lib.hid g1; clear s1 g1 lm htn hte))
  have A0 := Lib.hid (Blk.grown K0.out G1.out (fun e => by have := Option.some.inj e; omega))
  have A2 := Lib.hid (Blk.grown K2.out G1.out (fun e => by have := Option.some.inj e; omega))
  have V1 := Lib.hid (V0.out.past S0.out G1.out)
  have E1 := Lib.hid (only_trans E0.out G1.out)
  have HR := Lib.hid (rtake_l T u l HL.out _ w1 hT V1.out HO.out)
  clear HP K0 K1 K2 ck0 ck1
  go_upto_region 12 with (first
    | ((with_reducible show wpList _ _ _ (Oper.mk _ (.load _ (.tmp 4)) _ _ _ _ :: _) _ _); refine wpList_load_row rfl 28 (.tmp 4) rfl z rfl 28 _ (0, 0) _ A0.out Tryd.underlying28 rfl infoSet ?_)
    | (go_at_call 26; refine HR.out.mono ?_; rintro e2 w2 ⟨m2, v2, lm2, rfl, hv2, hb2⟩; obtain rfl : m2 = m := lm2.one LM.out; rw [← TN.out, ← TE.out]; obtain ⟨L5, hL5⟩ : ∃ x, x = (AL.lst T (AL.mark T u m2)).length := ⟨_, rfl⟩; obtain ⟨a5, k5, hsh, _⟩ := hv2.shape; rw [← hL5] at hsh; subst hsh; have V2 := Lib.hid hv2; have B2 := Lib.hid hb2; have A02 := Lib.hid (A0.out.below hb2 A0.out.lt); have A22 := Lib.hid (A2.out.below hb2 A2.out.lt); have S2 := Lib.hid (S1.out.below hb2); clear hv2 hb2 hL5 lm2)
    | ((with_reducible show wpList _ _ _ (Oper.mk _ (.store _ (.tmp 4) _) _ _ _ _ :: _) _ _); refine wpList_store_blk rfl 28 (.tmp 4) (.tmp 63) rfl (z) 0 (rs T (.slice a5 L5 k5)) rfl rfl 28 _ A02.out (Nat.le_refl _) infoSet (rs_one _ _ _ _) ?_; intro w3 hb hg; rw [splice_all _ _ (by rfl)] at hb; have R3 := Lib.hid hb; have G3 := Lib.hid hg; clear hb hg))
  have A3 := Lib.hid (Blk.grown A22.out G3.out (fun e => by have := Option.some.inj e; omega))
  have V3 := Lib.hid (V2.out.besides G3.out A02.out (rs_no32 _ _ _ _))
  have S3 := Lib.hid (S2.out.grown G3.out (fun e => by have := Option.some.inj e; omega) (fun e => by have := Option.some.inj e; omega))
  go_wp2_with (first
    | ((with_reducible show wpList _ _ _ (Oper.mk _ (.load _ (.tmp 4)) _ _ _ _ :: _) _ _); refine wpList_load_row rfl 28 (.tmp 4) rfl z rfl 28 _ (0, 0) _ R3.out Tryd.underlying28 rfl infoSet ?_)
    | ((with_reducible show wpList _ _ _ (Oper.mk _ (.store _ (.tmp 6) _) _ _ _ _ :: _) _ _); refine wpList_store_blk rfl 28 (.tmp 6) (.tmp 66) rfl (z + 2) 0 (rs T (.slice a5 L5 k5)) rfl rfl 28 _ A3.out (Nat.le_refl _) infoSet (rs_one _ _ _ _) ?_; intro w4 hb hg; rw [splice_all _ _ (by rfl)] at hb; have R4 := Lib.hid hb; have G4 := Lib.hid hg; clear hb hg))
  refine bodyPost_ret (results_mid2 rfl _ _ (z + 2) (rs T (.slice a5 L5 k5)) _ rfl R4.out.range Tryd.underlying28 rfl infoSet) rfl ⟨_, _, rfl, S3.out.grown G4.out (fun e => by have := Option.some.inj e; omega) (fun e => by have := Option.some.inj e; omega), V3.out.besides G4.out A3.out (rs_no32 _ _ _ _), ?_⟩
  exact only_join (only_join (only_trans E1.out (grown_of_below B2.out _)) (by have := HZ.out; omega) G3.out) (by have := HZ.out; omega) G4.out
theorem ado_any (b g T : Nat) (u : Nat → Bool) (v : Value) (k n : Nat) (w : World) (hn : n < 4294967296) (hs : Sets w b g T u) (hv : Wd w v (AL.lst T u)) (hTab : TabD w) : Calls Tryd.prog 13 #[.pointer (some ⟨b, 0, none⟩), .agg (rs T v).toArray, .agg #[.int .u8 (k : Int), .int .u32 (n : Int)]] w fun e w' => ∃ u' v', e = .returned (.tuple #[.agg (rs T v').toArray, .bool true]) ∧ Sets w' b g T u' ∧ Wd w' v' (AL.lst T u') ∧ w.grownBy w' (some g) := ado_l b g T u _ rfl v k n w hn hs hv hTab
end Go.Proofs.YtlckhlcccifbfaaDoor
