/- The document's set of clusters: contract of its Take. Own work. -/
import Derived.Test.YtlckhlcccifbfaaDoorAlRM
namespace Go.Proofs.YtlckhlcccifbfaaDoor
open Go.ChangeShapes Go.WideShapes Go.ChangeAt Go.RowKit
/-- Words do not stand in a block that holds none: a slice of them stays as it is. -/
theorem Wd.besides {w w' : World} {v : Value} {l : List Nat} (h : Wd w v l) {b : Nat} {t : TypeId} {cs : List Value} (hg : w.grownBy w' (some b)) (hb : Blk w b t cs) (hn : ∀ c ∈ cs, ∀ x, c ≠ .int .u32 x) : Wd w' v l := by
  refine ⟨h.word, h.fits, ?_⟩
  rcases h.form with q | ⟨ad, cap, e2, hc, hs⟩
  · exact .inl q
  · refine .inr ⟨ad, cap, e2, hc, fun j hj => ?_⟩
    have h1 := hs j hj
    have hlt := World.block_lt_of_cell? w _ h1
    by_cases hq : (ad.add j).block = b
    · exfalso
      unfold Blk at hb
      unfold World.cell? at h1
      rw [hq, hb] at h1
      have h2 : cs[(ad.add j).off]? = some (.int .u32 ((gb l j : Nat) : Int)) := (by simpa using h1 : _ ∧ _).2
      exact hn _ (List.mem_of_getElem? h2) _ rfl
    · rw [World.cell?_of_block (w := w) (hg.block _ hlt (fun e => hq (Option.some.inj e)))]; exact h1
theorem rs_no32 (T : Nat) (ao : Option Addr) (n c : Nat) : ∀ u ∈ rs T (.slice ao n c), ∀ x, u ≠ .int .u32 x := by
  intro u hu x e
  subst e
  simp [rs] at hu
set_option maxHeartbeats 1000000 in
theorem rtake_l (T : Nat) (u : Nat → Bool) (l : List Nat) (hl : l = AL.lst T u) (v : Value) (w : World) (hT : T ≤ 65536) (hv : Wd w v l) (ho : ∀ n, T ≤ n → u n = false) : Calls Tryd.prog 26 #[.agg #[.int .i64 (T : Int), v]] w fun e w' => ∃ n v', AL.Low u n ∧ e = .returned (.tuple #[.agg (rs T v').toArray, .int .u32 ((tnum T n : Nat) : Int), .int .i64 ((terr T n : Nat) : Int)]) ∧ Wd w' v' (AL.lst T (AL.mark T u n)) ∧ Below w.heap.size w w' := by
  obtain ⟨ao, cap, rfl, hcap⟩ := hv.shape
  have HV := Lib.hid hv
  have HO := Lib.hid ho
  have HL := Lib.hid hl
  have hll : l.length ≤ 65536 := by have := AL.lst_len T u; rw [← hl] at this; omega
  have hla := fun k hk hj => AL.low_at T u k hk hj
  rw [← hl] at hla
  have HLA := Lib.hid hla
  clear hv ho hl hla
  go_enter Tryd.func26, Tryd.ntmps26
  go_upto_region 1 with (fail)
  obtain ⟨W0, hW0⟩ : ∃ W0, W0 = (w.alloc (.cells #[.int .i64 (T : Int), .slice ao l.length cap] 28)).alloc (.cells #[.int .i64 0, .slice none 0 0] 28) := ⟨_, rfl⟩
  have hb0 : Below w.heap.size w W0 := by rw [hW0]; exact ((Below.refl _ _).alloc (Nat.le_refl _) _).alloc (by simp) _
  have k0 : Blk W0 w.heap.size 28 (rs T (.slice ao l.length cap)) := by rw [hW0]; exact (Blk.new w _ _ _ rfl).alloc _
  have k1 : Blk W0 (w.heap.size + 1) 28 (rs 0 (.slice none 0 0)) := by rw [hW0]; exact Blk.new _ _ _ _ (by simp)
  have HB0 := Lib.hid hb0
  have K0 := Lib.hid k0
  have K1 := Lib.hid k1
  rw [← hW0]
  clear hW0 hb0 k0 k1
  obtain ⟨b, hbs⟩ : ∃ b, b = w.heap.size := ⟨_, rfl⟩
  have HBS := Lib.hid hbs
  rw [← hbs] at K0 K1 ⊢
  clear hbs
  go_wp2_with fail
  go_loopw [5] (fun x wr => ∃ k : Nat, k ≤ T ∧ x = .int .i64 (k : Int) ∧ (∀ j, j < k → u j = true) ∧ Blk wr b 28 (rs T (.slice ao l.length cap)) ∧ Blk wr (b + 1) 28 (rs 0 (.slice none 0 0)) ∧ Below w.heap.size w wr) (fun x _ => T - (intOf x).toNat)
  case atStart => exact ⟨0, Nat.zero_le _, rfl, fun j hj => absurd hj (by omega), K0.out, K1.out, HB0.out⟩
  case round =>
    obtain ⟨k, hk, hx, hf, bk0, bk1, bw⟩ := hrel
    subst hx
    clear K0 K1 HB0
    have BW := Lib.hid bw
    have B0 := Lib.hid bk0
    have B1 := Lib.hid bk1
    have HF := Lib.hid hf
    have c0 : wr.cell? ⟨b, 0, none⟩ = some (.int .i64 (T : Int)) := bk0.cell 0 _ rfl
    have c1 : wr.cell? ⟨b, 1, none⟩ = some (.slice ao l.length cap) := bk0.cell 1 _ rfl
    clear bw bk0 bk1 hf
    have V1 := Lib.hid (HV.out.below BW.out)
    by_cases hlt : k < T
    · have hiff := HLA.out k hlt HF.out
      by_cases hu : u k = true
      · obtain ⟨q1, q2⟩ := hiff.2 hu
        obtain ⟨ad, rfl, hc⟩ := V1.out.at_ k q1
        have kl : (k : Int) < (l.length : Int) := by omega
        have q3 : gb l k = k := q2
        rw [q3] at hc
        have hd : decide (l.length ≤ k) = false := by simp; omega
        clear hiff q2
        go_wp2_with fail
        exact ⟨⟨k + 1, by omega, by go_num, fun j hj => by
          by_cases e : j = k
          · rw [e]; exact hu
          · exact HF.out j (by omega), B0.out, B1.out, BW.out⟩, by simp [intOf]; omega⟩
      · have huf : u k = false := by simpa using hu
        have HM := Lib.hid (rmark_l T k u l HL.out _ wr (by omega) hT V1.out HO.out)
        have he : AL.merr T u k = 0 := by unfold AL.merr; rw [if_neg (by omega), if_neg hu]
        rw [he] at HM
        have LW := Lib.hid (show AL.Low u k from ⟨huf, HF.out⟩)
        clear he
        by_cases q1 : k < l.length
        · obtain ⟨ad, rfl, hc⟩ := V1.out.at_ k q1
          have kl : (k : Int) < (l.length : Int) := by omega
          have q2 : ¬ gb l k = k := fun e => hu (hiff.1 ⟨q1, e⟩)
          have q3 : ¬ (gb l k : Int) = (k : Int) := by omega
          have q4 := V1.out.word k
          clear hiff q2
          have hd : decide (l.length ≤ k) = false := by simp; omega
          go_upto_region 5 with (fail)
          go_upto_region 6 with (first
            | ((with_reducible show wpList _ _ _ (Oper.mk _ (.load _ (.tmp 1)) _ _ _ _ :: _) _ _); refine wpList_load_row rfl 28 (.tmp 1) rfl b rfl 28 _ (0, 0) _ B0.out Tryd.underlying28 rfl infoSet ?_)
            | (go_at_call 24; refine HM.out.mono ?_; rintro e2 w2 ⟨v2, rfl, hv2, hb2⟩; obtain ⟨L5, hL5⟩ : ∃ L5, L5 = (AL.lst T (AL.mark T u k)).length := ⟨_, rfl⟩; obtain ⟨a5, k5, hsh, _⟩ := hv2.shape; rw [← hL5] at hsh; subst hsh; have V2 := Lib.hid hv2;  have D2 := Lib.hid (BW.out.on hb2); have A2 := Lib.hid (B1.out.below hb2 B1.out.lt); clear hv2 hb2 hL5)
            | ((with_reducible show wpList _ _ _ (Oper.mk _ (.store _ (.tmp 6) _) _ _ _ _ :: _) _ _); refine wpList_store_blk rfl 28 (.tmp 6) (.tmp 34) rfl w2.heap.size 0 (rs T (.slice a5 L5 k5)) rfl rfl 28 (rs 0 (.slice none 0 0)) (Blk.new w2 _ _ _ rfl) (Nat.le_refl _) infoSet (rs_one _ _ _ _) ?_; intro w3 hb hg; rw [splice_all _ _ (by rfl)] at hb; have R3 := Lib.hid hb; have D3 := Lib.hid (below_then (w := w2) ((Below.refl _ _).alloc (Nat.le_refl _) _) hg (Nat.le_refl _)); clear hb hg))
          have A3 := Lib.hid (A2.out.below D3.out A2.out.lt)
          have V3 := Lib.hid (V2.out.below D3.out)
          have E3 := Lib.hid (D2.out.on D3.out)
          have lb := A2.out.lt
          go_wp2_with (first
            | ((with_reducible show wpList _ _ _ (Oper.mk _ (.load _ (.tmp 6)) _ _ _ _ :: _) _ _); refine wpList_load_row rfl 28 (.tmp 6) rfl w2.heap.size rfl 28 _ (0, 0) _ R3.out Tryd.underlying28 rfl infoSet ?_)
            | ((with_reducible show wpList _ _ _ (Oper.mk _ (.store _ (.tmp 2) _) _ _ _ _ :: _) _ _); refine wpList_store_blk rfl 28 (.tmp 2) (.tmp 36) rfl (b + 1) 0 (rs T (.slice a5 L5 k5)) rfl rfl 28 _ A3.out (Nat.le_refl _) infoSet (rs_one _ _ _ _) ?_; intro w9 hb hg; rw [splice_all _ _ (by rfl)] at hb; have R9 := Lib.hid hb; have G9 := Lib.hid hg; clear hb hg))
          have hbb := below_then E3.out G9.out (by have := HBS.out; omega)
          have hn : tnum T k = k := by unfold tnum; rw [if_pos hlt]
          have he2 : terr T k = 0 := by unfold terr; rw [if_pos hlt]
          refine bodyPost_ret (results_mid3a rfl _ _ (b + 1) (rs T (.slice a5 L5 k5)) _ rfl R9.out.range Tryd.underlying28 rfl infoSet) rfl ⟨k, _, LW.out, by rw [hn, he2]; rfl, V3.out.besides G9.out A3.out (rs_no32 _ _ _ _), by first | exact hbb | (rw [HBS.out]; exact hbb)⟩
        · have kl : ¬ (k : Int) < (l.length : Int) := by omega
          clear hiff
          have hd : decide (l.length ≤ k) = true := by simp; omega
          go_upto_region 5 with (fail)
          go_upto_region 6 with (first
            | ((with_reducible show wpList _ _ _ (Oper.mk _ (.load _ (.tmp 1)) _ _ _ _ :: _) _ _); refine wpList_load_row rfl 28 (.tmp 1) rfl b rfl 28 _ (0, 0) _ B0.out Tryd.underlying28 rfl infoSet ?_)
            | (go_at_call 24; refine HM.out.mono ?_; rintro e2 w2 ⟨v2, rfl, hv2, hb2⟩; obtain ⟨L5, hL5⟩ : ∃ L5, L5 = (AL.lst T (AL.mark T u k)).length := ⟨_, rfl⟩; obtain ⟨a5, k5, hsh, _⟩ := hv2.shape; rw [← hL5] at hsh; subst hsh; have V2 := Lib.hid hv2;  have D2 := Lib.hid (BW.out.on hb2); have A2 := Lib.hid (B1.out.below hb2 B1.out.lt); clear hv2 hb2 hL5)
            | ((with_reducible show wpList _ _ _ (Oper.mk _ (.store _ (.tmp 6) _) _ _ _ _ :: _) _ _); refine wpList_store_blk rfl 28 (.tmp 6) (.tmp 34) rfl w2.heap.size 0 (rs T (.slice a5 L5 k5)) rfl rfl 28 (rs 0 (.slice none 0 0)) (Blk.new w2 _ _ _ rfl) (Nat.le_refl _) infoSet (rs_one _ _ _ _) ?_; intro w3 hb hg; rw [splice_all _ _ (by rfl)] at hb; have R3 := Lib.hid hb; have D3 := Lib.hid (below_then (w := w2) ((Below.refl _ _).alloc (Nat.le_refl _) _) hg (Nat.le_refl _)); clear hb hg))
          have A3 := Lib.hid (A2.out.below D3.out A2.out.lt)
          have V3 := Lib.hid (V2.out.below D3.out)
          have E3 := Lib.hid (D2.out.on D3.out)
          have lb := A2.out.lt
          go_wp2_with (first
            | ((with_reducible show wpList _ _ _ (Oper.mk _ (.load _ (.tmp 6)) _ _ _ _ :: _) _ _); refine wpList_load_row rfl 28 (.tmp 6) rfl w2.heap.size rfl 28 _ (0, 0) _ R3.out Tryd.underlying28 rfl infoSet ?_)
            | ((with_reducible show wpList _ _ _ (Oper.mk _ (.store _ (.tmp 2) _) _ _ _ _ :: _) _ _); refine wpList_store_blk rfl 28 (.tmp 2) (.tmp 36) rfl (b + 1) 0 (rs T (.slice a5 L5 k5)) rfl rfl 28 _ A3.out (Nat.le_refl _) infoSet (rs_one _ _ _ _) ?_; intro w9 hb hg; rw [splice_all _ _ (by rfl)] at hb; have R9 := Lib.hid hb; have G9 := Lib.hid hg; clear hb hg))
          have hbb := below_then E3.out G9.out (by have := HBS.out; omega)
          have hn : tnum T k = k := by unfold tnum; rw [if_pos hlt]
          have he2 : terr T k = 0 := by unfold terr; rw [if_pos hlt]
          refine bodyPost_ret (results_mid3a rfl _ _ (b + 1) (rs T (.slice a5 L5 k5)) _ rfl R9.out.range Tryd.underlying28 rfl infoSet) rfl ⟨k, _, LW.out, by rw [hn, he2]; rfl, V3.out.besides G9.out A3.out (rs_no32 _ _ _ _), by first | exact hbb | (rw [HBS.out]; exact hbb)⟩
    · obtain rfl : k = T := by omega
      have LW := Lib.hid (show AL.Low u k from ⟨HO.out k (Nat.le_refl _), HF.out⟩)
      go_wp2_with (first
        | ((with_reducible show wpList _ _ _ (Oper.mk _ (.load _ (.tmp 1)) _ _ _ _ :: _) _ _); refine wpList_load_row rfl 28 (.tmp 1) rfl b rfl 28 _ (0, 0) _ B0.out Tryd.underlying28 rfl infoSet ?_)
        | ((with_reducible show wpList _ _ _ (Oper.mk _ (.store _ (.tmp 2) _) _ _ _ _ :: _) _ _); refine wpList_store_blk rfl 28 (.tmp 2) (.tmp 39) rfl (b + 1) 0 (rs k (.slice ao l.length cap)) rfl rfl 28 _ B1.out (Nat.le_refl _) infoSet (rs_one _ _ _ _) ?_; intro w9 hb hg; rw [splice_all _ _ (by rfl)] at hb; have R9 := Lib.hid hb; have G9 := Lib.hid hg; clear hb hg))
      have hbb := below_then BW.out G9.out (by have := HBS.out; omega)
      have hn : tnum k k = 0 := by unfold tnum; rw [if_neg hlt]
      have he2 : terr k k = 21 := by unfold terr; rw [if_neg hlt]
      refine bodyPost_ret (results_mid3a rfl _ _ (b + 1) (rs k (.slice ao l.length cap)) _ rfl R9.out.range Tryd.underlying28 rfl infoSet) rfl ⟨k, _, LW.out, by rw [hn, he2]; rfl, ?_, by first | exact hbb | (rw [HBS.out]; exact hbb)⟩
      rw [AL.mark_same k u k (.inl (Nat.le_refl _)), ← HL.out]
      exact V1.out.besides G9.out B1.out (rs_no32 _ _ _ _)
theorem rtake_any (T : Nat) (u : Nat → Bool) (v : Value) (w : World) (hT : T ≤ 65536) (hv : Wd w v (AL.lst T u)) (ho : ∀ n, T ≤ n → u n = false) : Calls Tryd.prog 26 #[.agg #[.int .i64 (T : Int), v]] w fun e w' => ∃ n v', AL.Low u n ∧ e = .returned (.tuple #[.agg (rs T v').toArray, .int .u32 ((tnum T n : Nat) : Int), .int .i64 ((terr T n : Nat) : Int)]) ∧ Wd w' v' (AL.lst T (AL.mark T u n)) ∧ Below w.heap.size w w' := rtake_l T u _ rfl v w hT hv ho
end Go.Proofs.YtlckhlcccifbfaaDoor
