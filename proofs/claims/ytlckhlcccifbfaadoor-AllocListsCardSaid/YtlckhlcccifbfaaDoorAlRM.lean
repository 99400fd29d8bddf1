/- The document's set of clusters: contracts of its Has, Mark and Clear. Own work. -/
import Derived.Test.YtlckhlcccifbfaaDoorAlR
import Derived.Test.YtlckhlcccifbfaaDoorResults
namespace Go.Proofs.YtlckhlcccifbfaaDoor
open Go.ChangeShapes Go.WideShapes Go.ChangeAt Go.RowKit
theorem spot_has (T n i : Nat) (u : Nat → Bool) (ho : ∀ n, T ≤ n → u n = false) (h : AL.Spot (AL.lst T u) n i) : decide (i < (AL.lst T u).length ∧ gb (AL.lst T u) i = n) = u n := by
  by_cases hn : n < T
  · have := AL.spot_is T u n i hn h
    unfold gb
    cases hu : u n with
    | true => simpa using this.2 hu
    | false =>
      rw [decide_eq_false_iff_not]
      intro q
      rw [this.1 q] at hu; cases hu
  · have := AL.spot_out T u n i (by omega) h
    rw [ho n (by omega), decide_eq_false_iff_not]
    omega
theorem rhas_any (T n : Nat) (u : Nat → Bool) (v : Value) (w : World) (hv : Wd w v (AL.lst T u)) (ho : ∀ n, T ≤ n → u n = false) : Calls Tryd.prog 23 #[.agg #[.int .i64 (T : Int), v], .int .u32 (n : Int)] w fun e w' => e = .returned (.bool (u n)) ∧ Below w.heap.size w w' := by
  have hb0 : Below w.heap.size w (w.alloc (.cells #[.int .i64 (T : Int), v] 28)) := (Below.refl _ _).alloc (Nat.le_refl _) _
  have HP := Lib.hid (place_any T n _ v _ (hv.below hb0))
  have HO := Lib.hid ho
  have HB := Lib.hid hb0
  clear hv ho hb0
  go_enter Tryd.func23, Tryd.ntmps23
  go_wp2_with (go_at_call 32; refine HP.out.mono ?_; rintro e1 w1 ⟨i, hs, rfl, hb⟩; rw [spot_has T n i u HO.out hs]; have B1 := Lib.hid (HB.out.on hb); clear hb hs)
  go_ret
  exact ⟨rfl, B1.out⟩
theorem own_noneW (w : World) (B : Nat) : OwnW w B (.slice none 0 0) [] := ⟨World.ownsRow_nil w _ _ _, fun k => by rw [gb_nil]; omega, by simp⟩
theorem zeroSet (w : World) : (zeroValue 28).run Tryd.prog w = .ok (.agg #[.int .i64 0, .slice none 0 0]) w := by kernel_rfl
theorem rs_one (T : Nat) (ao : Option Addr) (n c : Nat) : (rs T (.slice ao n c)).toArray.all (·.oneCell') = true := by simp [rs, Value.oneCell']
set_option maxHeartbeats 1000000 in
theorem rmark_l (T n : Nat) (u : Nat → Bool) (l : List Nat) (hl : l = AL.lst T u) (v : Value) (w : World) (hn : n < 4294967296) (hT : T ≤ 65536) (hv : Wd w v l) (ho : ∀ n, T ≤ n → u n = false) : Calls Tryd.prog 24 #[.agg #[.int .i64 (T : Int), v], .int .u32 (n : Int)] w fun e w' => ∃ v', e = .returned (.tuple #[.agg (rs T v').toArray, .int .i64 ((AL.merr T u n : Nat) : Int)]) ∧ Wd w' v' (AL.lst T (AL.mark T u n)) ∧ Below w.heap.size w w' := by
  obtain ⟨ao, cap, rfl, hcap⟩ := hv.shape
  have HV := Lib.hid hv
  have HO := Lib.hid ho
  have HL := Lib.hid hl
  have hsp := fun i => spot_has T n i u ho
  rw [← hl] at hsp
  have HSP := Lib.hid hsp
  have hll : l.length ≤ 65536 := by have := AL.lst_len T u; rw [← hl] at this; omega
  clear hv ho hl hsp
  go_enter Tryd.func24, Tryd.ntmps24
  go_upto_region 1 with (fail)
  obtain ⟨W0, hW0⟩ : ∃ W0, W0 = (w.alloc (.cells #[.int .i64 (T : Int), .slice ao l.length cap] 28)).alloc (.cells #[.int .i64 0, .slice none 0 0] 28) := ⟨_, rfl⟩
  have hb0 : Below w.heap.size w W0 := by rw [hW0]; exact ((Below.refl _ _).alloc (Nat.le_refl _) _).alloc (by simp) _
  have k0 : Blk W0 w.heap.size 28 (rs T (.slice ao l.length cap)) := by rw [hW0]; exact (Blk.new w _ _ _ rfl).alloc _
  have k1 : Blk W0 (w.heap.size + 1) 28 (rs 0 (.slice none 0 0)) := by rw [hW0]; exact Blk.new _ _ _ _ (by simp)
  have HB0 := Lib.hid hb0
  have K0 := Lib.hid k0
  have K1 := Lib.hid k1
  rw [← hW0]
  clear hW0 hb0 k0 k1
  have HP := Lib.hid (place_any T n _ _ W0 (HV.out.below HB0.out))
  obtain ⟨b, hbs⟩ : ∃ b, b = w.heap.size := ⟨_, rfl⟩
  have HBS := Lib.hid hbs
  rw [← hbs] at K0 K1 ⊢
  clear hbs
  go_upto_region 2 with (first
    | ((with_reducible show wpList _ _ _ (Oper.mk _ (.load _ (.tmp 2)) _ _ _ _ :: _) _ _); refine wpList_load_row rfl 28 (.tmp 2) rfl b rfl 28 _ (0, 0) _ K0.out Tryd.underlying28 rfl infoSet ?_)
    | (go_at_call 32; refine HP.out.mono ?_; rintro e1 w1 ⟨i, hs, rfl, hb⟩; rw [HSP.out i hs]; have B1 := Lib.hid (HB0.out.on hb); have A0 := Lib.hid (K0.out.below hb K0.out.lt); have A1 := Lib.hid (K1.out.below hb K1.out.lt); have HS := Lib.hid hs; clear hb hs))
  clear HP K0 K1 HB0
  have c0 : w1.cell? ⟨b, 0, none⟩ = some (.int .i64 (T : Int)) := A0.out.cell 0 _ rfl
  have hbs := HBS.out
  by_cases h1 : T ≤ n
  · have he : AL.merr T u n = 43 := by unfold AL.merr; rw [if_pos h1]
    have hm := AL.mark_same T u n (.inl h1)
    have HM := Lib.hid hm
    have HE := Lib.hid he
    clear hm he hbs
    go_wp2_with (first
      | ((with_reducible show wpList _ _ _ (Oper.mk _ (.load _ (.tmp 2)) _ _ _ _ :: _) _ _); refine wpList_load_row rfl 28 (.tmp 2) rfl b rfl 28 _ (0, 0) _ A0.out Tryd.underlying28 rfl infoSet ?_)
      | ((with_reducible show wpList _ _ _ (Oper.mk _ (.store _ (.tmp 4) _) _ _ _ _ :: _) _ _); refine wpList_store_blk rfl 28 (.tmp 4) (.tmp 21) rfl (b + 1) 0 (rs T (.slice ao l.length cap)) rfl rfl 28 _ A1.out (Nat.le_refl _) infoSet (rs_one _ _ _ _) ?_; intro w9 hb hg; rw [splice_all _ _ (by rfl)] at hb; have R2 := Lib.hid hb; have G2 := Lib.hid hg; clear hb hg))
    have hbb := below_then B1.out G2.out (by have := HBS.out; omega)
    refine bodyPost_ret (results_mid2 rfl _ _ (b + 1) (rs T (.slice ao l.length cap)) _ rfl R2.out.range Tryd.underlying28 rfl infoSet) rfl ⟨_, by rw [HE.out]; rfl, ?_, by first | exact hbb | (rw [HBS.out]; exact hbb)⟩
    rw [HM.out, ← HL.out]
    exact HV.out.below hbb
  by_cases h2 : u n = true
  · have he : AL.merr T u n = 23 := by unfold AL.merr; rw [if_neg h1, if_pos h2]
    have hm := AL.mark_same T u n (.inr h2)
    have HM := Lib.hid hm
    have HE := Lib.hid he
    clear hm he hbs
    rw [h2]
    go_wp2_with (first
      | ((with_reducible show wpList _ _ _ (Oper.mk _ (.load _ (.tmp 2)) _ _ _ _ :: _) _ _); refine wpList_load_row rfl 28 (.tmp 2) rfl b rfl 28 _ (0, 0) _ A0.out Tryd.underlying28 rfl infoSet ?_)
      | ((with_reducible show wpList _ _ _ (Oper.mk _ (.store _ (.tmp 4) _) _ _ _ _ :: _) _ _); refine wpList_store_blk rfl 28 (.tmp 4) (.tmp 24) rfl (b + 1) 0 (rs T (.slice ao l.length cap)) rfl rfl 28 _ A1.out (Nat.le_refl _) infoSet (rs_one _ _ _ _) ?_; intro w9 hb hg; rw [splice_all _ _ (by rfl)] at hb; have R2 := Lib.hid hb; have G2 := Lib.hid hg; clear hb hg))
    have hbb := below_then B1.out G2.out (by have := HBS.out; omega)
    refine bodyPost_ret (results_mid2 rfl _ _ (b + 1) (rs T (.slice ao l.length cap)) _ rfl R2.out.range Tryd.underlying28 rfl infoSet) rfl ⟨_, by rw [HE.out]; rfl, ?_, by first | exact hbb | (rw [HBS.out]; exact hbb)⟩
    rw [HM.out, ← HL.out]
    exact HV.out.below hbb
  have h2f : u n = false := by simpa using h2
  have he : AL.merr T u n = 0 := by unfold AL.merr; rw [if_neg h1, if_neg h2]
  have hm := AL.lst_mark T u n i (by omega) h2f (HL.out ▸ HS.out)
  rw [← HL.out] at hm
  have HM := Lib.hid hm
  have HE := Lib.hid he
  have hil : i ≤ l.length := HS.out.1
  have c1 : w1.cell? ⟨b, 1, none⟩ = some (.slice ao l.length cap) := A0.out.cell 1 _ rfl
  have V1 := Lib.hid (HV.out.below B1.out)
  have hsz := A1.out.lt
  clear hm he hbs
  go_upto_region 7 with (fail)
  go_upto_region 8 with (first
    | ((with_reducible show wpList _ _ _ (Oper.mk _ (.call _) _ _ _ _ :: _) _ _); refine wpList_appW rfl (.tmp 25) (.tmp 29) rfl w1.heap.size _ _ [] (l.take i) rfl rfl (own_noneW _ _) (V1.out.take i hil) (by simp; omega) (Nat.le_refl _) ?_; intro v3 w3 ho hg hk2; have O3 := Lib.hid ho; have G3 := Lib.hid hg; clear ho hg hk2)
    | ((with_reducible show wpList _ _ _ (Oper.mk _ (.call _) _ _ _ _ :: _) _ _); refine wpList_appW rfl (.tmp 30) (.tmp 32) rfl w1.heap.size _ _ _ [n] rfl rfl (O3.out.alloc _) (wd_one _ _ n rfl (by omega) _ rfl) (by simp; omega) (by have := G3.out.size; simp; omega) ?_; intro v4 w4 ho hg hk2; have O4 := Lib.hid ho; have G4 := Lib.hid hg; clear ho hg hk2))
  have b3 := below_app (w := w1) (Below.refl _ _) G3.out (fun g hg => by cases hg)
  have b4 := below_app (w := w1) (b3.alloc b3.size (.cells #[.int .u32 (n : Int)] 31)) G4.out (fun g hg => (O3.out.from g hg).1)
  have A4 := Lib.hid (A0.out.below b4 A0.out.lt)
  have V4 := Lib.hid (V1.out.below b4)
  have B4 := Lib.hid b4
  have c4 := A4.out.cell 1 _ rfl
  clear b3 b4 c1 c0
  go_upto_region 9 with (first
    | ((with_reducible show wpList _ _ _ (Oper.mk _ (.call _) _ _ _ _ :: _) _ _); refine wpList_appW rfl (.tmp 34) (.tmp 38) rfl w1.heap.size _ _ _ (l.drop i) rfl rfl O4.out (V4.out.drop i hil) (by simp; omega) B4.out.size ?_; intro v5 w5 ho hg hk2; have b5 := below_app (w := w1) B4.out hg (fun g hg => (O4.out.from g hg).1); have A5 := Lib.hid (A0.out.below b5 A0.out.lt); have A6 := Lib.hid (A1.out.below b5 A1.out.lt); have c5 := A5.out.cell 1 _ rfl; have f5 := A5.out.free 1; have O5 := Lib.hid ho; have B5 := Lib.hid b5; obtain ⟨L5, hL5⟩ : ∃ L5, L5 = ([] ++ l.take i ++ [n] ++ l.drop i).length := ⟨_, rfl⟩; obtain ⟨a5, k5, hsh, _⟩ := ho.rd.shape; rw [← hL5] at hsh; subst hsh; clear ho hg hk2 b5 c4 hL5))
  obtain ⟨W6, hW6⟩ : ∃ W6, W6 = w5.setCell ⟨b, 1, none⟩ (.slice a5 L5 k5) := ⟨_, rfl⟩
  have A7 := Lib.hid (show Blk W6 b 28 (rs T (.slice a5 L5 k5)) by rw [hW6]; exact A5.out.set 1 _)
  have A8 := Lib.hid (show Blk W6 (b + 1) 28 (rs 0 (.slice none 0 0)) by rw [hW6]; exact A6.out.other _ _ (by simp))
  have B6 := Lib.hid (show Below w.heap.size w W6 by rw [hW6]; exact (B1.out.on B5.out).setCell (by have := HBS.out; simp; omega) _)
  have V6 := Lib.hid (show Wd W6 (.slice a5 L5 k5) ([] ++ l.take i ++ [n] ++ l.drop i) by rw [hW6]; exact O5.out.rd.setCell _ _ (fun e => by have := (O5.out.from _ e).1; simp at this; omega))
  have H6 := Lib.hid (fun g (e : Value.ownBlock (.slice a5 L5 k5) = some g) => (O5.out.from g e).1)
  rw [← hW6]
  clear hW6 c5 f5
  generalize (if cap = i then ao else Option.map (fun x => x.add i) ao) = ax
  go_wp2_with (first
    | ((with_reducible show wpList _ _ _ (Oper.mk _ (.load _ (.tmp 2)) _ _ _ _ :: _) _ _); refine wpList_load_row rfl 28 (.tmp 2) rfl b rfl 28 _ (0, 0) _ A7.out Tryd.underlying28 rfl infoSet ?_)
    | ((with_reducible show wpList _ _ _ (Oper.mk _ (.store _ (.tmp 4) _) _ _ _ _ :: _) _ _); refine wpList_store_blk rfl 28 (.tmp 4) (.tmp 41) rfl (b + 1) 0 (rs T (.slice a5 L5 k5)) rfl rfl 28 _ A8.out (Nat.le_refl _) infoSet (rs_one _ _ _ _) ?_; intro w9 hb hg; rw [splice_all _ _ (by rfl)] at hb; have R2 := Lib.hid hb; have G2 := Lib.hid hg; clear hb hg))
  have hbb := below_then B6.out G2.out (by have := HBS.out; omega)
  refine bodyPost_ret (results_mid2 rfl _ _ (b + 1) (rs T (.slice a5 L5 k5)) _ rfl R2.out.range Tryd.underlying28 rfl infoSet) rfl ⟨_, by rw [HE.out]; rfl, ?_, by first | exact hbb | (rw [HBS.out]; exact hbb)⟩
  rw [HM.out]
  refine V6.out.grown G2.out ?_
  cases e : Value.ownBlock (.slice a5 L5 k5) with
  | none => exact .inl rfl
  | some g => exact .inr (fun q => by have := H6.out g e; have := Option.some.inj q; omega)
set_option maxHeartbeats 1000000 in
theorem rclear_l (T n : Nat) (u : Nat → Bool) (l : List Nat) (hl : l = AL.lst T u) (v : Value) (w : World) (hn : n < 4294967296) (hT : T ≤ 65536) (hv : Wd w v l) (ho : ∀ n, T ≤ n → u n = false) : Calls Tryd.prog 25 #[.agg #[.int .i64 (T : Int), v], .int .u32 (n : Int)] w fun e w' => ∃ v', e = .returned (.tuple #[.agg (rs T v').toArray, .int .i64 ((AL.cerr T u n : Nat) : Int)]) ∧ Wd w' v' (AL.lst T (AL.clear u n)) ∧ Below w.heap.size w w' := by
  obtain ⟨ao, cap, rfl, hcap⟩ := hv.shape
  have HV := Lib.hid hv
  have HO := Lib.hid ho
  have HL := Lib.hid hl
  have hsp := fun i => spot_has T n i u ho
  rw [← hl] at hsp
  have HSP := Lib.hid hsp
  have hll : l.length ≤ 65536 := by have := AL.lst_len T u; rw [← hl] at this; omega
  clear hv ho hl hsp
  go_enter Tryd.func25, Tryd.ntmps25
  go_upto_region 1 with (fail)
  obtain ⟨W0, hW0⟩ : ∃ W0, W0 = (w.alloc (.cells #[.int .i64 (T : Int), .slice ao l.length cap] 28)).alloc (.cells #[.int .i64 0, .slice none 0 0] 28) := ⟨_, rfl⟩
  have hb0 : Below w.heap.size w W0 := by rw [hW0]; exact ((Below.refl _ _).alloc (Nat.le_refl _) _).alloc (by simp) _
  have k0 : Blk W0 w.heap.size 28 (rs T (.slice ao l.length cap)) := by rw [hW0]; exact (Blk.new w _ _ _ rfl).alloc _
  have k1 : Blk W0 (w.heap.size + 1) 28 (rs 0 (.slice none 0 0)) := by rw [hW0]; exact Blk.new _ _ _ _ (by simp)
  have HB0 := Lib.hid hb0
  have K0 := Lib.hid k0
  have K1 := Lib.hid k1
  rw [← hW0]
  clear hW0 hb0 k0 k1
  have HP := Lib.hid (place_any T n _ _ W0 (HV.out.below HB0.out))
  obtain ⟨b, hbs⟩ : ∃ b, b = w.heap.size := ⟨_, rfl⟩
  have HBS := Lib.hid hbs
  rw [← hbs] at K0 K1 ⊢
  clear hbs
  go_upto_region 2 with (first
    | ((with_reducible show wpList _ _ _ (Oper.mk _ (.load _ (.tmp 2)) _ _ _ _ :: _) _ _); refine wpList_load_row rfl 28 (.tmp 2) rfl b rfl 28 _ (0, 0) _ K0.out Tryd.underlying28 rfl infoSet ?_)
    | (go_at_call 32; refine HP.out.mono ?_; rintro e1 w1 ⟨i, hs, rfl, hb⟩; rw [HSP.out i hs]; have B1 := Lib.hid (HB0.out.on hb); have A0 := Lib.hid (K0.out.below hb K0.out.lt); have A1 := Lib.hid (K1.out.below hb K1.out.lt); have HS := Lib.hid hs; clear hb hs))
  clear HP K0 K1 HB0
  have c0 : w1.cell? ⟨b, 0, none⟩ = some (.int .i64 (T : Int)) := A0.out.cell 0 _ rfl
  have hbs := HBS.out
  by_cases h1 : T ≤ n
  · have he : AL.cerr T u n = 43 := by unfold AL.cerr; rw [if_pos h1]
    have hm := AL.clear_same u n (HO.out n h1)
    have HM := Lib.hid hm
    have HE := Lib.hid he
    clear hm he hbs
    go_wp2_with (first
      | ((with_reducible show wpList _ _ _ (Oper.mk _ (.load _ (.tmp 2)) _ _ _ _ :: _) _ _); refine wpList_load_row rfl 28 (.tmp 2) rfl b rfl 28 _ (0, 0) _ A0.out Tryd.underlying28 rfl infoSet ?_)
      | ((with_reducible show wpList _ _ _ (Oper.mk _ (.store _ (.tmp 4) _) _ _ _ _ :: _) _ _); refine wpList_store_blk rfl 28 (.tmp 4) (.tmp 21) rfl (b + 1) 0 (rs T (.slice ao l.length cap)) rfl rfl 28 _ A1.out (Nat.le_refl _) infoSet (rs_one _ _ _ _) ?_; intro w9 hb hg; rw [splice_all _ _ (by rfl)] at hb; have R2 := Lib.hid hb; have G2 := Lib.hid hg; clear hb hg))
    have hbb := below_then B1.out G2.out (by have := HBS.out; omega)
    refine bodyPost_ret (results_mid2 rfl _ _ (b + 1) (rs T (.slice ao l.length cap)) _ rfl R2.out.range Tryd.underlying28 rfl infoSet) rfl ⟨_, by rw [HE.out]; rfl, ?_, by first | exact hbb | (rw [HBS.out]; exact hbb)⟩
    rw [HM.out, ← HL.out]
    exact HV.out.below hbb
  by_cases h2 : u n = false
  · have he : AL.cerr T u n = 22 := by unfold AL.cerr; rw [if_neg h1, if_neg (by rw [h2]; simp)]
    have hm := AL.clear_same u n h2
    have HM := Lib.hid hm
    have HE := Lib.hid he
    clear hm he hbs
    rw [h2]
    go_wp2_with (first
      | ((with_reducible show wpList _ _ _ (Oper.mk _ (.load _ (.tmp 2)) _ _ _ _ :: _) _ _); refine wpList_load_row rfl 28 (.tmp 2) rfl b rfl 28 _ (0, 0) _ A0.out Tryd.underlying28 rfl infoSet ?_)
      | ((with_reducible show wpList _ _ _ (Oper.mk _ (.store _ (.tmp 4) _) _ _ _ _ :: _) _ _); refine wpList_store_blk rfl 28 (.tmp 4) (.tmp 25) rfl (b + 1) 0 (rs T (.slice ao l.length cap)) rfl rfl 28 _ A1.out (Nat.le_refl _) infoSet (rs_one _ _ _ _) ?_; intro w9 hb hg; rw [splice_all _ _ (by rfl)] at hb; have R2 := Lib.hid hb; have G2 := Lib.hid hg; clear hb hg))
    have hbb := below_then B1.out G2.out (by have := HBS.out; omega)
    refine bodyPost_ret (results_mid2 rfl _ _ (b + 1) (rs T (.slice ao l.length cap)) _ rfl R2.out.range Tryd.underlying28 rfl infoSet) rfl ⟨_, by rw [HE.out]; rfl, ?_, by first | exact hbb | (rw [HBS.out]; exact hbb)⟩
    rw [HM.out, ← HL.out]
    exact HV.out.below hbb
  have h2f : u n = true := by simpa using h2
  have he : AL.cerr T u n = 0 := by unfold AL.cerr; rw [if_neg h1, if_pos h2f]
  have hm := AL.lst_clear T u n i (by omega) h2f (HL.out ▸ HS.out)
  have hil1 : i + 1 ≤ l.length := by have := ((AL.spot_is T u n i (by omega) (HL.out ▸ HS.out)).2 h2f).1; rw [← HL.out] at this; omega
  rw [h2f]
  rw [← HL.out] at hm
  have HM := Lib.hid hm
  have HE := Lib.hid he
  have hil : i ≤ l.length := HS.out.1
  have c1 : w1.cell? ⟨b, 1, none⟩ = some (.slice ao l.length cap) := A0.out.cell 1 _ rfl
  have V1 := Lib.hid (HV.out.below B1.out)
  have hsz := A1.out.lt
  clear hm he hbs
  go_upto_region 7 with (fail)
  go_upto_region 8 with (first
    | ((with_reducible show wpList _ _ _ (Oper.mk _ (.call _) _ _ _ _ :: _) _ _); refine wpList_appW rfl (.tmp 26) (.tmp 30) rfl w1.heap.size _ _ [] (l.take i) rfl rfl (own_noneW _ _) (V1.out.take i hil) (by simp; omega) (Nat.le_refl _) ?_; intro v3 w3 ho hg hk2; have O3 := Lib.hid ho; have G3 := Lib.hid hg; clear ho hg hk2))
  have b3 := below_app (w := w1) (Below.refl _ _) G3.out (fun g hg => by cases hg)
  have A4 := Lib.hid (A0.out.below b3 A0.out.lt)
  have V4 := Lib.hid (V1.out.below b3)
  have B3 := Lib.hid b3
  have c4 := A4.out.cell 1 _ rfl
  clear b3 c1 c0
  go_upto_region 9 with (first
    | ((with_reducible show wpList _ _ _ (Oper.mk _ (.call _) _ _ _ _ :: _) _ _); refine wpList_appW rfl (.tmp 32) (.tmp 37) rfl w1.heap.size _ _ _ (l.drop (i + 1)) rfl rfl O3.out (V4.out.drop (i + 1) hil1) (by simp; omega) B3.out.size ?_; intro v5 w5 ho hg hk2; have b5 := below_app (w := w1) B3.out hg (fun g hg => (O3.out.from g hg).1); have A5 := Lib.hid (A0.out.below b5 A0.out.lt); have A6 := Lib.hid (A1.out.below b5 A1.out.lt); have c5 := A5.out.cell 1 _ rfl; have f5 := A5.out.free 1; have O5 := Lib.hid ho; have B5 := Lib.hid b5; obtain ⟨L5, hL5⟩ : ∃ L5, L5 = ([] ++ l.take i ++ l.drop (i + 1)).length := ⟨_, rfl⟩; obtain ⟨a5, k5, hsh, _⟩ := ho.rd.shape; rw [← hL5] at hsh; subst hsh; clear ho hg hk2 b5 c4 hL5))
  obtain ⟨W6, hW6⟩ : ∃ W6, W6 = w5.setCell ⟨b, 1, none⟩ (.slice a5 L5 k5) := ⟨_, rfl⟩
  have A7 := Lib.hid (show Blk W6 b 28 (rs T (.slice a5 L5 k5)) by rw [hW6]; exact A5.out.set 1 _)
  have A8 := Lib.hid (show Blk W6 (b + 1) 28 (rs 0 (.slice none 0 0)) by rw [hW6]; exact A6.out.other _ _ (by simp))
  have B6 := Lib.hid (show Below w.heap.size w W6 by rw [hW6]; exact (B1.out.on B5.out).setCell (by have := HBS.out; simp; omega) _)
  have V6 := Lib.hid (show Wd W6 (.slice a5 L5 k5) ([] ++ l.take i ++ l.drop (i + 1)) by rw [hW6]; exact O5.out.rd.setCell _ _ (fun e => by have := (O5.out.from _ e).1; simp at this; omega))
  have H6 := Lib.hid (fun g (e : Value.ownBlock (.slice a5 L5 k5) = some g) => (O5.out.from g e).1)
  rw [← hW6]
  clear hW6 c5 f5
  go_wp2_with (first
    | ((with_reducible show wpList _ _ _ (Oper.mk _ (.load _ (.tmp 2)) _ _ _ _ :: _) _ _); refine wpList_load_row rfl 28 (.tmp 2) rfl b rfl 28 _ (0, 0) _ A7.out Tryd.underlying28 rfl infoSet ?_)
    | ((with_reducible show wpList _ _ _ (Oper.mk _ (.store _ (.tmp 4) _) _ _ _ _ :: _) _ _); refine wpList_store_blk rfl 28 (.tmp 4) (.tmp 40) rfl (b + 1) 0 (rs T (.slice a5 L5 k5)) rfl rfl 28 _ A8.out (Nat.le_refl _) infoSet (rs_one _ _ _ _) ?_; intro w9 hb hg; rw [splice_all _ _ (by rfl)] at hb; have R2 := Lib.hid hb; have G2 := Lib.hid hg; clear hb hg))
  all_goals
    have hbb := below_then B6.out G2.out (by have := HBS.out; omega)
    refine bodyPost_ret (results_mid2 rfl _ _ (b + 1) (rs T (.slice a5 L5 k5)) _ rfl R2.out.range Tryd.underlying28 rfl infoSet) rfl ⟨_, by rw [HE.out]; rfl, ?_, by first | exact hbb | (rw [HBS.out]; exact hbb)⟩
    rw [HM.out]
    refine V6.out.grown G2.out ?_
    cases e : Value.ownBlock (.slice a5 L5 k5) with
    | none => exact .inl rfl
    | some g => exact .inr (fun q => by have := H6.out g e; have := Option.some.inj q; omega)
theorem rmark_any (T n : Nat) (u : Nat → Bool) (v : Value) (w : World) (hn : n < 4294967296) (hT : T ≤ 65536) (hv : Wd w v (AL.lst T u)) (ho : ∀ n, T ≤ n → u n = false) : Calls Tryd.prog 24 #[.agg #[.int .i64 (T : Int), v], .int .u32 (n : Int)] w fun e w' => ∃ v', e = .returned (.tuple #[.agg (rs T v').toArray, .int .i64 ((AL.merr T u n : Nat) : Int)]) ∧ Wd w' v' (AL.lst T (AL.mark T u n)) ∧ Below w.heap.size w w' := rmark_l T n u _ rfl v w hn hT hv ho
theorem rclear_any (T n : Nat) (u : Nat → Bool) (v : Value) (w : World) (hn : n < 4294967296) (hT : T ≤ 65536) (hv : Wd w v (AL.lst T u)) (ho : ∀ n, T ≤ n → u n = false) : Calls Tryd.prog 25 #[.agg #[.int .i64 (T : Int), v], .int .u32 (n : Int)] w fun e w' => ∃ v', e = .returned (.tuple #[.agg (rs T v').toArray, .int .i64 ((AL.cerr T u n : Nat) : Int)]) ∧ Wd w' v' (AL.lst T (AL.clear u n)) ∧ Below w.heap.size w w' := rclear_l T n u _ rfl v w hn hT hv ho
end Go.Proofs.YtlckhlcccifbfaaDoor
