/- A call on both: write: contracts. Own work. -/
import Derived.Test.YtipdcocliefppaaDevDoH
namespace Go.Proofs.Ytipdcocliefppaa
open Go.ChangeShapes Go.WideShapes Go.ChangeAt Go.RowKit
set_option maxHeartbeats 8000000 in
set_option maxRecDepth 100000 in
theorem do_write (d : Nat) (F R : Nat → Prop) (S : DM.DS) (x : AD) (w : World) (hdv : Dv w d F R S) (htm : Tame S) (da : Option Addr) (dl dc : Nat) (hl : RL w (.slice da dl dc) S.loose) (hlv : ∀ g, (.slice da dl dc : Value).ownBlock = some g → ¬ F g) (ua : Option Addr) (uc : Nat) (hu : Rd w (.slice ua x.data.length uc) x.data) (huf : 0 < x.data.length → ∀ g, (.slice ua x.data.length uc : Value).ownBlock = some g → ¬ F g) (hdl : x.data.length ≤ 20000) (hat : -9223372036854775808 ≤ x.at_ ∧ x.at_ ≤ 9223372036854775807) (hk8 : x.kind < 256) (h9 : x.kind % 9 ≤ 2) :
    Calls Try.prog 12 #[.pointer (some ⟨d, 0, none⟩), .agg #[.int .i64 (S.most : Int), .string (bstr S.seen), .string (bstr S.safe), .slice da dl dc, .int .i64 (S.steps : Int), .bool S.down, .bool S.told, .int .i64 (S.after : Int), .bool S.done], .agg #[.int .u8 (x.kind : Int), .int .i64 x.at_, .slice ua x.data.length uc, .bool x.done]] w (DoPost w d F R (.slice da dl dc) (DM.write S x.at_ x.data).1) := by
  have hzz := zeroRd
  have TM := Lib.hid htm
  have HLV := Lib.hid hlv
  have HU := Lib.hid huf
  have HDL := Lib.hid hdl
  have HAT := Lib.hid hat
  have DV := Lib.hid hdv
  have RLW := Lib.hid hl
  have RU := Lib.hid hu
  have ST := Lib.hid (show S.steps < 9223372036854775807 by have := htm.steps; omega)
  have AF := Lib.hid htm.after
  obtain ⟨T, hT⟩ : ∃ T, T = (DM.write S x.at_ x.data).1 := ⟨_, rfl⟩
  rw [← hT]
  have HT := Lib.hid hT
  obtain ⟨E, hE⟩ : ∃ E, E = (DM.write S x.at_ x.data).2 := ⟨_, rfl⟩
  have HE := Lib.hid hE
  clear hE
  have hk3 : ¬ (x.kind : Int) % 9 = 3 := by omega
  have hk4 : ¬ (x.kind : Int) % 9 = 4 := by omega
  have hk5 : ¬ (x.kind : Int) % 9 = 5 := by omega
  have hk6 : ¬ (x.kind : Int) % 9 = 6 := by omega
  have hk7 : ¬ (x.kind : Int) % 9 = 7 := by omega
  have hk8 : ¬ (x.kind : Int) % 9 = 8 := by omega
  clear hdv htm hl hlv hu huf hdl hat hT h9
  go_enter Try.func12, Try.ntmps12
  go_upto_region 1 with (fail)
  obtain ⟨W, hW⟩ : ∃ W, W = ((w.alloc (.cells #[.int .i64 (S.most : Int), .string (bstr S.seen), .string (bstr S.safe), .slice da dl dc, .int .i64 (S.steps : Int), .bool S.down, .bool S.told, .int .i64 (S.after : Int), .bool S.done] 29)).alloc (.cells #[.int .u8 (x.kind : Int), .int .i64 x.at_, .slice ua x.data.length uc, .bool x.done] 35)).alloc (.cells #[.int .i64 0, .string { data := #[] }, .string { data := #[] }, .slice none 0 0, .int .i64 0, .bool false, .bool false, .int .i64 0, .bool false] 29) := ⟨_, rfl⟩
  have hsW : W.heap.size = w.heap.size + 1 + 1 + 1 := by rw [hW]; simp
  have b0 : Below w.heap.size w W := by rw [hW]; exact ((((Below.refl _ _).alloc (Nat.le_refl _) _).alloc (by simp) _).alloc (by simp; omega) _)
  have kr : Blk W w.heap.size 29 [.int .i64 (S.most : Int), .string (bstr S.seen), .string (bstr S.safe), .slice da dl dc, .int .i64 (S.steps : Int), .bool S.down, .bool S.told, .int .i64 (S.after : Int), .bool S.done] := by rw [hW]; exact ((Blk.new w 29 [.int .i64 (S.most : Int), .string (bstr S.seen), .string (bstr S.safe), .slice da dl dc, .int .i64 (S.steps : Int), .bool S.down, .bool S.told, .int .i64 (S.after : Int), .bool S.done] _ rfl).alloc _).alloc _
  have ka : Blk W (w.heap.size + 1) 35 [.int .u8 (x.kind : Int), .int .i64 x.at_, .slice ua x.data.length uc, .bool x.done] := by rw [hW]; exact (Blk.new (w.alloc _) 35 [.int .u8 (x.kind : Int), .int .i64 x.at_, .slice ua x.data.length uc, .bool x.done] (w.heap.size + 1) (by simp)).alloc _
  have kz : Blk W (w.heap.size + 1 + 1) 29 [.int .i64 0, .string { data := #[] }, .string { data := #[] }, .slice none 0 0, .int .i64 0, .bool false, .bool false, .int .i64 0, .bool false] := by rw [hW]; exact Blk.new ((w.alloc _).alloc _) 29 [.int .i64 0, .string { data := #[] }, .string { data := #[] }, .slice none 0 0, .int .i64 0, .bool false, .bool false, .int .i64 0, .bool false] (w.heap.size + 1 + 1) (by simp)
  rw [← hW]
  have c2 := (ka.alloc (.cells #[] 5)).cell 2 _ rfl
  have c0 := ka.cell 2 _ rfl
  have KR := Lib.hid kr
  have KA := Lib.hid ka
  have KZ := Lib.hid kz
  have BW := Lib.hid b0
  have HSW := Lib.hid hsW
  have be : Below W.heap.size W (W.alloc (.cells #[] 5)) := (Below.refl _ _).alloc (Nat.le_refl _) _
  have BE := Lib.hid be
  clear hW kr ka kz b0 hsW be
  go_upto_region 3 with (at_builtin; refine wpList_app rfl (.tmp 12) (.tmp 14) rfl W.heap.size (.slice (some ⟨W.heap.size, 0, none⟩) 0 0) _ [] x.data rfl rfl (own_empty W rfl (Nat.le_refl _)) ((RU.out.below BW.out).below BE.out) (by have := HDL.out; simp; omega) (by simp) ?_; intro v1 w2 ho2 hg2 hq2; rw [List.nil_append] at ho2; have O2 := Lib.hid ho2; have G2 := Lib.hid (show Below W.heap.size W w2 from BE.out.grown hg2 (by simp) (fun k hk => ((own_empty W rfl (Nat.le_refl _)).from k hk).1)); clear ho2 hg2 hq2)
  obtain ⟨oa, oc, rfl, _⟩ := O2.out.rd.shape
  have B2 := Lib.hid (BW.out.on G2.out)
  have KR2 := Lib.hid (KR.out.below G2.out KR.out.lt)
  have ka2 := KA.out.below G2.out KA.out.lt
  have KA2 := Lib.hid ka2
  have KZ2 := Lib.hid (KZ.out.below G2.out KZ.out.lt)
  have RU2 := Lib.hid (RU.out.below B2.out)
  have RL2 := Lib.hid (RLW.out.below B2.out)
  have D2 := Lib.hid (DV.out.keep B2.out.size (fun k hk => B2.out.block k (DV.out.sub.2 k hk)))
  have NB := Lib.hid (show ∀ k, w.heap.size ≤ k → ¬ F k from fun k hk h => by have := DV.out.sub.2 k (DV.out.sub.1 k h); omega)
  have NOF := Lib.hid (show ∀ g, (.slice oa x.data.length oc : Value).ownBlock = some g → ¬ F g from fun g hg => NB.out g (by have := (O2.out.from g hg).1; have := HSW.out; omega))
  have T2 := Lib.hid (show Turn F w w2 from Turn.of_below B2.out)
  have SW2 := Lib.hid (show w.heap.size + 1 + 1 + 1 ≤ w2.heap.size by have := G2.out.size; have := HSW.out; omega)
  have a0 := ka2.cell 0 _ rfl
  have a1 := ka2.cell 1 _ rfl
  have a2 := ka2.cell 2 _ rfl
  have a3 := ka2.cell 3 _ rfl
  clear ka2 c0 c2
  have hd0 := dwrite_any d F R S w2 D2.out TM.out x.at_ HAT.out (.slice oa x.data.length oc) x.data O2.out.rd (by have := HDL.out; omega) (fun _ g hg => NOF.out g hg)
  rw [← HE.out, ← HT.out] at hd0
  have HD0 := Lib.hid hd0
  clear hd0
  go_upto_region 25 with (first
    | (go_at_call 19; (with_reducible refine HD0.out.mono ?_); rintro e w3 ⟨rfl, F2, R2, d3, f3, r3, t3⟩; have D3 := Lib.hid d3; have HF3 := Lib.hid f3; have HR3 := Lib.hid r3; have T3 := Lib.hid (T2.out.trans t3 (fun i hi => .inl hi)); have KR3 := Lib.hid (blk_turn KR2.out t3 (NB.out _ (Nat.le_refl _))); have KA3 := Lib.hid (blk_turn KA2.out t3 (NB.out _ (by omega))); have KZ3 := Lib.hid (blk_turn KZ2.out t3 (NB.out _ (by omega))); have O3 := Lib.hid (own_turn O2.out t3 NOF.out); have RU3 := Lib.hid (rd_turn RU2.out t3 HU.out); have RL3 := Lib.hid (rl_turn RL2.out t3 HLV.out); have SZ3 := Lib.hid t3.size; clear d3 f3 r3 t3; have b1 := KA3.out.cell 1 _ rfl; have b2 := KA3.out.cell 2 _ rfl; have b3 := KA3.out.cell 3 _ rfl; have hsu := RU3.out.str; have hc3 := rwrite_any S x.at_ x.data da dl dc w3 TM.out.ok TM.out.loose (by have := HDL.out; omega) HAT.out ST.out AF.out RL3.out; skip; have HC3 := Lib.hid hc3; clear hc3 HD0)
    | (refine wpList_load_mid rfl 29 (.tmp 4) rfl (w.heap.size) 0 rfl [.int .i64 (S.most : Int), .string (bstr S.seen), .string (bstr S.safe), .slice da dl dc, .int .i64 (S.steps : Int), .bool S.down, .bool S.told, .int .i64 (S.after : Int), .bool S.done] _ KR3.out.range Try.underlying29 rfl infoRd ?_)
    | (go_at_call 36; refine HC3.out.mono ?_; rintro e w4 hpost; rewrite [RDone, ← HE.out, ← HT.out] at hpost; obtain ⟨la, n, c, rfl, l4, b4, g4⟩ := hpost; have L4 := Lib.hid l4; have G4 := Lib.hid g4; have D4 := Lib.hid (D3.out.keep b4.size (fun k hk => b4.block k (D3.out.sub.2 k hk))); have T4 := Lib.hid (turn_below T3.out b4); have KR4 := Lib.hid (KR3.out.below b4 KR3.out.lt); have KZ4 := Lib.hid (KZ3.out.below b4 KZ3.out.lt); have O4 := Lib.hid (O3.out.below b4); have SZ4 := Lib.hid b4.size; clear l4 b4 g4 HC3)
    | (refine wpList_store_blk rfl 29 (.tmp 4) (.tmp 32) rfl (w.heap.size) 0 [.int .i64 (T.most : Int), .string (bstr T.seen), .string (bstr T.safe), .slice la n c, .int .i64 (T.steps : Int), .bool T.down, .bool T.told, .int .i64 (T.after : Int), .bool T.done] rfl rfl 29 _ KR4.out (by simp) infoRd (by simp [Value.oneCell']) ?_; intro w5 k5 g5; have KR5 := Lib.hid (k5.dev rfl); have KZ5 := Lib.hid (KZ4.out.grown g5 (fun e => by have := Option.some.inj e; omega)); have O5 := Lib.hid (O4.out.keep g5 (by
        cases hq : (Value.slice oa x.data.length oc).ownBlock with
        | none => exact .inl rfl
        | some z => exact .inr (fun e => by have h1 := (O4.out.from z hq).1; have h2 := HSW.out; have := Option.some.inj e; omega))); have L5 := Lib.hid (L4.out.grown g5 (by
        cases hq : (Value.slice la n c).ownBlock with
        | none => exact .inl rfl
        | some z => exact .inr (fun e => by
            have h1 := G4.out z hq
            have h2 := Option.some.inj e
            have h3 := SW2.out
            have h4 := SZ3.out
            rcases h1 with h1 | h1
            · have := RLW.out.lt z h1; omega
            · omega))); have NR5 := Lib.hid (show ∀ z, w.heap.size ≤ z → z < w2.heap.size → ¬ R2 z from fun z hz1 hz2 h => by
        rcases HR3.out z h with q | q
        · have := DV.out.sub.2 z q; omega
        · omega); have D5 := Lib.hid (D4.out.keep g5.size (fun k hk => g5.block k (D4.out.sub.2 k hk) (fun e => NR5.out k (by have := Option.some.inj e; omega) (by have := Option.some.inj e; have := SW2.out; omega) hk))); have T5 := Lib.hid (T4.out.trans (Turn.of_grown (F := fun z => z = w.heap.size) g5 rfl) (fun i hi => .inr (by rw [hi]; exact Nat.le_refl _))); clear k5 g5))
  have HOB := Lib.hid (fun (j : Nat) (e : (Value.slice oa x.data.length oc).ownBlock = some j) => (show w.heap.size + 1 + 1 + 1 ≤ j ∧ j < w2.heap.size from by have h1 := O2.out.from j e; have h2 := HSW.out; omega))
  have HLA := Lib.hid (show ∀ z, (Value.slice la n c).ownBlock = some z → z < w.heap.size ∨ w3.heap.size ≤ z from fun z hz => by
    rcases G4.out z hz with q | q
    · exact .inl (RLW.out.lt z q)
    · exact .inr q)
  have HNF := Lib.hid (show ∀ g, (Value.slice la n c).ownBlock = some g → ((Value.slice da dl dc).ownBlock = some g ∨ w.heap.size ≤ g) ∧ ¬ F2 g from fun g hg => by
    have h1 := SW2.out
    have h2 := SZ3.out
    rcases G4.out g hg with q | q
    · refine ⟨.inl q, fun hf => ?_⟩
      have := RLW.out.lt g q
      rcases HF3.out g hf with z | z
      · exact HLV.out g q z
      · omega
    · refine ⟨.inr (by omega), fun hf => ?_⟩
      have := D3.out.sub.2 g (D3.out.sub.1 g hf)
      omega)
  have HF6 := Lib.hid (show ∀ k, F2 k → F k ∨ w.heap.size ≤ k from fun k hk => by have h1 := SW2.out; exact (HF3.out k hk).elim (fun q => .inl q) (fun q => .inr (by omega)))
  have HR6 := Lib.hid (show ∀ k, R2 k → R k ∨ w.heap.size ≤ k from fun k hk => by have h1 := SW2.out; exact (HR3.out k hk).elim (fun q => .inl q) (fun q => .inr (by omega)))
  clear TM HLV HU HAT DV RU ST AF KR KA KZ BW BE O2 G2 B2 KR2 KA2 KZ2 RU2 RL2 D2 NB NOF T2 a0 a1 a2 a3 D3 HF3 HR3 T3 KR3 KA3 KZ3 O3 RU3 RL3 G4 L4 D4 T4 KR4 KZ4 O4 SZ4
  go_loopw [11] (fun i wr => ∃ (j : Nat) (M : List Nat), j ≤ x.data.length ∧ i = .int .i64 (j : Int) ∧ M.length = x.data.length ∧ Own wr W.heap.size (.slice oa x.data.length oc) M ∧ Blk wr w.heap.size 29 [.int .i64 (T.most : Int), .string (bstr T.seen), .string (bstr T.safe), .slice la n c, .int .i64 (T.steps : Int), .bool T.down, .bool T.told, .int .i64 (T.after : Int), .bool T.done] ∧ Blk wr (w.heap.size + 1 + 1) 29 [.int .i64 0, .string { data := #[] }, .string { data := #[] }, .slice none 0 0, .int .i64 0, .bool false, .bool false, .int .i64 0, .bool false] ∧ RL wr (.slice la n c) T.loose ∧ Dv wr d F2 R2 T ∧ Turn F w wr) (fun i _ => x.data.length - (intOf i).toNat)
  case atStart => exact ⟨0, x.data, Nat.zero_le _, rfl, rfl, O5.out, KR5.out, KZ5.out, L5.out, D5.out, T5.out⟩
  case round =>
    clear O5 KR5 KZ5 L5 D5 T5
    obtain ⟨j, M, hj, rfl, hM, om, kr, kz, l, dv, t⟩ := hrel
    have hxf := HDL.out
    by_cases hlt : j < x.data.length
    · obtain ⟨u, rfl⟩ := own_at om (by rw [hM]; omega)
      have cu := om.cell hM.symm j (by rw [hM]; exact hlt)
      have fu := om.free hM.symm j
      have hb8 := om.2.1 j
      obtain ⟨y, hy⟩ : ∃ y, y = gb M j := ⟨_, rfl⟩
      rw [← hy] at cu hb8
      obtain ⟨z, hz⟩ : ∃ z, z = (y + 1) % 256 := ⟨_, rfl⟩
      have hz1 : ((y : Int) + 1) % 256 = (z : Int) := by omega
      have hz2 : z < 256 := by omega
      have OM := Lib.hid om
      have KR6 := Lib.hid kr
      have KZ6 := Lib.hid kz
      have L6 := Lib.hid l
      have D6 := Lib.hid dv
      have T6 := Lib.hid t
      have HMM := Lib.hid hM
      clear om kr kz l dv t hM hy hz
      go_wp2_with fail
      have hms := HMM.out
      have o2 : Own (wr.setCell ⟨u, j, none⟩ (.int .u8 (z : Int))) W.heap.size (.slice (some ⟨u, 0, none⟩) x.data.length oc) (M.set j z) := by
        have h := OM.out; rw [← hms] at h ⊢; exact h.set j z hz2 (by omega)
      have hg := grownBy_cell wr u j (.int .u8 (z : Int))
      have hu := HOB.out u rfl
      have hs3 := SZ3.out
      refine ⟨⟨j + 1, M.set j z, by omega, by go_num, by rw [List.length_set]; exact hms, o2, KR6.out.grown hg (by intro e; have := Option.some.inj e; omega), KZ6.out.grown hg (by intro e; have := Option.some.inj e; omega), L6.out.grown hg (by
        cases hq : (Value.slice la n c).ownBlock with
        | none => exact .inl rfl
        | some z => exact .inr (fun e => by have h1 := HLA.out z hq; have := Option.some.inj e; omega)), D6.out.keep hg.size (fun k hk => hg.block k (D6.out.sub.2 k hk) (fun e => NR5.out k (by have := Option.some.inj e; omega) (by have := Option.some.inj e; omega) hk)), T6.out.trans (Turn.of_grown (F := fun z => z = u) hg rfl) (fun i hi => .inr (by rw [hi]; omega))⟩, by simp [intOf]; omega⟩
    · have hje : j = x.data.length := by omega
      have KR6 := Lib.hid kr
      have KZ6 := Lib.hid kz
      have L6 := Lib.hid l
      have D6 := Lib.hid dv
      have T6 := Lib.hid t
      clear om kr kz l dv t hM
      go_wp2_with (first
        | (refine wpList_load_mid rfl 29 (.tmp 4) rfl (w.heap.size) 0 rfl [.int .i64 (T.most : Int), .string (bstr T.seen), .string (bstr T.safe), .slice la n c, .int .i64 (T.steps : Int), .bool T.down, .bool T.told, .int .i64 (T.after : Int), .bool T.done] _ KR6.out.range Try.underlying29 rfl infoRd ?_)
        | (refine wpList_store_blk rfl 29 (.tmp 6) (.tmp 114) rfl (w.heap.size + 1 + 1) 0 [.int .i64 (T.most : Int), .string (bstr T.seen), .string (bstr T.safe), .slice la n c, .int .i64 (T.steps : Int), .bool T.down, .bool T.told, .int .i64 (T.after : Int), .bool T.done] rfl rfl 29 _ KZ6.out (by simp) infoRd (by simp [Value.oneCell']) ?_; intro w7 k7 g7; have K7 := Lib.hid (k7.dev rfl); have L7 := Lib.hid (L6.out.grown g7 (by
            cases hq : (Value.slice la n c).ownBlock with
            | none => exact .inl rfl
            | some z => exact .inr (fun e => by have h1 := HLA.out z hq; have h2 := Option.some.inj e; have h3 := SZ3.out; have h4 := SW2.out; omega))); have D7 := Lib.hid (D6.out.keep g7.size (fun k hk => g7.block k (D6.out.sub.2 k hk) (fun e => NR5.out k (by have := Option.some.inj e; omega) (by have := Option.some.inj e; have := SW2.out; omega) hk))); have T7 := Lib.hid (T6.out.trans (Turn.of_grown (F := fun z => z = w.heap.size + 1 + 1) g7 rfl) (fun i hi => .inr (by rw [hi]; omega))); clear k7 g7))
      exact bodyPost_ret (results_mid2 rfl _ _ (w.heap.size + 1 + 1) [.int .i64 (T.most : Int), .string (bstr T.seen), .string (bstr T.safe), .slice la n c, .int .i64 (T.steps : Int), .bool T.down, .bool T.told, .int .i64 (T.after : Int), .bool T.done] _ rfl K7.out.range Try.underlying29 rfl infoRd) rfl ⟨la, n, c, F2, R2, rfl, L7.out, D7.out, HF6.out, HR6.out, T7.out, HNF.out⟩
end Go.Proofs.Ytipdcocliefppaa
